/- droverlaw01.BytesList returns true whatever its arguments: numbers and blobs put one behind the other are got in order, and nothing is left. For every input, without conditions. -/
import Derived.Test.YtafjkbmkoghmkaaRow
import Derived.Test.YtafjkbmkoghmkaaAwake
import Derived.Test.YtafjkbmkoghmkaaOwn2
import Derived.Deep.Matrix
namespace Go.Proofs.Ytafjkbmkoghmkaa.bytesList
open Go.ChangeShapes Go.WideShapes Go.ChangeAt Go.RowKit
set_option linter.unusedVariables false

theorem ints_bs {w : World} {a : Option Addr} {n c : Nat} {zs : List Int} (h : Ints .u8 w a n c zs) : Bs w (.slice a n c) (zs.map Int.toNat) := by
  have hb : ∀ z ∈ zs, ∃ m : Nat, z = m ∧ m < 256 := fun z hz => wf_u8 (h.wf z hz)
  refine Bs.of_at ?_ (by simp [h.len]) h.cap ?_
  · have e : bv (zs.map Int.toNat) = zs.map (Value.int .u8) := by
      unfold bv
      rw [List.map_map]
      apply List.map_congr_left
      intro z hz
      obtain ⟨m, rfl, _⟩ := hb z hz
      simp
    rw [e]
    exact h.at_
  · intro x hx
    obtain ⟨z, hz, rfl⟩ := List.mem_map.1 hx
    obtain ⟨m, rfl, hm⟩ := hb z hz
    simpa using hm
/-- A list of blobs that came in. -/
structure BRows (w : World) (a : Option Addr) (n c : Nat) (ll : List (List Nat)) : Prop where
  len : ll.length = n
  cap : n ≤ c
  row : 0 < n → ∃ b o, a = some ⟨b, o, none⟩ ∧ b < w.heap.size ∧ ∀ r, r < n → ∃ A k, w.cell? ⟨b, o + r, none⟩ = some (.slice A (ll.getD r []).length k) ∧ Bs w (.slice A (ll.getD r []).length k) (ll.getD r [])
theorem brows_open {H : Type} {enc : TypeId × Value → H} {W : World} {a : Option Addr} {n c : Nat} {d : DataW H} {p : List MemPlace}
    (h : DataW.Trod enc Try.prog W 0 (fun _ => true) true 52 (.slice a n c) d p) : ∃ ll : List (List Nat), BRows W a n c ll := by
  obtain ⟨fuel, hf⟩ := h
  rcases Deep.open_int_rows Try.underlying52 Try.underlying23 Try.underlying5 (by kernel_rfl) (by kernel_rfl) hf with ⟨hcs, _⟩ | ⟨x, len, cap, A, L, C, Z, hcs, _, hl, hm, _, hrow⟩
  · simp [Value.cells] at hcs
    obtain ⟨rfl, rfl, rfl⟩ := hcs
    exact ⟨[], rfl, Nat.le_refl _, fun h => absurd h (by omega)⟩
  · simp [Value.cells] at hcs
    obtain ⟨rfl, rfl, rfl⟩ := hcs
    refine ⟨(List.range n).map fun r => ((Z r).take (L r)).map Int.toNat, by simp, hl, fun hn => ?_⟩
    obtain ⟨hc0, _⟩ := hrow 0 (by omega)
    obtain ⟨b, o, s⟩ := x
    have hs : s = none := by simpa [Addr.add] using World.cell?_spot hc0
    subst hs
    refine ⟨b, o, rfl, ?_, fun r hr => ?_⟩
    · have := World.block_lt_of_cell? W _ hc0
      simpa [Addr.add] using this
    · obtain ⟨h1, h2, h3, h4, h5, h6, h7⟩ := hrow r (by omega)
      rw [Addr.add_lit] at h1
      have e : ((List.range n).map fun r => ((Z r).take (L r)).map Int.toNat).getD r [] = ((Z r).take (L r)).map Int.toNat := by simp [hr]
      rw [e]
      have hlen : (((Z r).take (L r)).map Int.toNat).length = L r := by simp; omega
      rw [hlen]
      refine ⟨A r, C r, h1, ?_⟩
      cases hA : A r with
      | none =>
        have hC := h6 hA
        have hL : L r = 0 := by omega
        rw [hC, hL]
        simp
        exact Bs.nil W
      | some a' => exact ints_bs (ints_some .u8 W a' (L r) (C r) (Z r) h2 h3 h4 (fun i hi => (h7 a' hA).2 i (by omega)) h5)
theorem BRows.below {w w' : World} {a : Option Addr} {n c : Nat} {ll : List (List Nat)} (h : BRows w a n c ll) (hb : Below w.heap.size w w') : BRows w' a n c ll := by
  refine ⟨h.len, h.cap, fun hn => ?_⟩
  obtain ⟨b, o, e, hlt, hr⟩ := h.row hn
  refine ⟨b, o, e, Nat.lt_of_lt_of_le hlt hb.size, fun r hrn => ?_⟩
  obtain ⟨A, k, hc, hbs⟩ := hr r hrn
  exact ⟨A, k, (hb.cell (p := ⟨b, o + r, none⟩) hlt).trans hc, hbs.below hb⟩
theorem ints_cell {w : World} {a : Option Addr} {n c : Nat} {zs : List Int} (h : Ints .i64 w a n c zs) (hn : 0 < n) :
    ∃ b o, a = some ⟨b, o, none⟩ ∧ b < w.heap.size ∧ ∀ r, r < n → w.cell? ⟨b, o + r, none⟩ = some (.int .i64 (zs.getD r 0)) := by
  have hl := h.len
  obtain ⟨b, o, e, hb, hc⟩ := h.at_ (by intro h0; have := congrArg List.length h0; rw [List.length_map, List.length_nil] at this; omega)
  exact ⟨b, o, e, hb, fun r hr => hc r _ (by simp [show r < zs.length by omega])⟩
/-- Signed ones, blobs, one behind the other. -/
def encI : List Int → List Nat
  | [] => []
  | z :: zs => varint (zz z) ++ encI zs
def encB : List (List Nat) → List Nat
  | [] => []
  | b :: bs => (varint b.length ++ b) ++ encB bs
theorem encI_append (a b : List Int) : encI (a ++ b) = encI a ++ encI b := by
  induction a with
  | nil => rfl
  | cons z a ih => simp [encI, ih]
theorem encB_append (a b : List (List Nat)) : encB (a ++ b) = encB a ++ encB b := by
  induction a with
  | nil => rfl
  | cons z a ih => simp [encB, ih]
theorem encI_step (zs : List Int) (j : Nat) (h : j < zs.length) : encI (zs.take (j + 1)) = encI (zs.take j) ++ varint (zz (zs.getD j 0)) := by
  rw [List.take_succ_eq_append_getElem h, encI_append]
  simp [encI, h]
theorem encB_step (ll : List (List Nat)) (j : Nat) (h : j < ll.length) : encB (ll.take (j + 1)) = encB (ll.take j) ++ (varint (ll.getD j []).length ++ ll.getD j []) := by
  rw [List.take_succ_eq_append_getElem h, encB_append]
  simp [encB, h]
theorem encI_split (zs : List Int) (j : Nat) (h : j < zs.length) : encI zs = encI (zs.take j) ++ (varint (zz (zs.getD j 0)) ++ encI (zs.drop (j + 1))) := by
  have e : zs = zs.take (j + 1) ++ zs.drop (j + 1) := (List.take_append_drop _ _).symm
  have := congrArg encI e
  rw [encI_append, encI_step zs j h, List.append_assoc] at this
  exact this
theorem encB_split (ll : List (List Nat)) (j : Nat) (h : j < ll.length) : encB ll = encB (ll.take j) ++ ((varint (ll.getD j []).length ++ ll.getD j []) ++ encB (ll.drop (j + 1))) := by
  have e : ll = ll.take (j + 1) ++ ll.drop (j + 1) := (List.take_append_drop _ _).symm
  have := congrArg encB e
  rw [encB_append, encB_step ll j h, List.append_assoc] at this
  exact this
theorem encI_len (zs : List Int) : (encI zs).length ≤ 10 * zs.length := by
  induction zs with
  | nil => simp [encI]
  | cons z zs ih =>
    have := varint_length (zz z)
    simp [encI]
    omega
theorem encB_len (ll : List (List Nat)) (h : ∀ b ∈ ll, b.length ≤ 50) : (encB ll).length ≤ 60 * ll.length := by
  induction ll with
  | nil => simp [encB]
  | cons b ll ih =>
    have h1 := varint_length b.length
    have h2 := h b (by simp)
    have h3 := ih (fun c hc => h c (List.mem_cons_of_mem _ hc))
    simp [encB]
    omega
theorem list_int (pre : List Nat) (zs : List Int) (ll : List (List Nat)) (j : Nat) (h : j < zs.length) (hb : -9223372036854775808 ≤ zs.getD j 0 ∧ zs.getD j 0 ≤ 9223372036854775807) :
    gu (pre ++ encI zs ++ encB ll) (pre ++ encI (zs.take j)).length = (zz (zs.getD j 0), (pre ++ encI (zs.take (j + 1))).length, 0) := by
  have e : pre ++ encI zs ++ encB ll = (pre ++ encI (zs.take j)) ++ varint (zz (zs.getD j 0)) ++ (encI (zs.drop (j + 1)) ++ encB ll) := by
    rw [encI_split zs j h]
    simp
  rw [e, gu_at _ _ _ (zz_lt _ hb.1 hb.2) _ rfl, encI_step zs j h]
  simp
  omega
theorem list_blob (pre : List Nat) (zs : List Int) (ll : List (List Nat)) (j : Nat) (h : j < ll.length) (hb : (ll.getD j []).length ≤ 50) :
    gb (pre ++ encI zs ++ encB ll) (pre ++ encI zs ++ encB (ll.take j)).length 50 = (ll.getD j [], (pre ++ encI zs ++ encB (ll.take (j + 1))).length, 0) := by
  have e : pre ++ encI zs ++ encB ll = (pre ++ encI zs ++ encB (ll.take j)) ++ varint (ll.getD j []).length ++ ll.getD j [] ++ encB (ll.drop (j + 1)) := by
    rw [encB_split ll j h]
    simp
  rw [e, gb_at _ _ _ 50 (by omega) (by omega) _ rfl, encB_step ll j h]
  simp
  omega

set_option maxRecDepth 100000 in
set_option maxHeartbeats 4000000 in
theorem walk (w : World) (a0 : Option Addr) (n0 c0 : Nat) (a1 : Option Addr) (n1 c1 : Nat) (a2 : Option Addr) (n2 c2 : Nat) (w0 : ∃ zs : List Int, Ints .i64 w a0 n0 c0 zs) (w1 : ∃ ll : List (List Nat), BRows w a1 n1 c1 ll) (w2 : ∃ l : List Nat, l.length = n2 ∧ n2 ≤ c2 ∧ At w w.heap.size a2 (bv l) ∧ (∀ x ∈ l, x < 256)) :
    Calls Try.prog 9 #[.slice a0 n0 c0, .slice a1 n1 c1, .slice a2 n2 c2] w fun e w' => e = .returned (.bool true) ∧ Below w.heap.size w w' := by
  obtain ⟨zs, hz⟩ := w0
  obtain ⟨ll, hr⟩ := w1
  obtain ⟨l, hl, hc, hat, h8⟩ := w2
  have hbl := Bs.of_at hat hl hc h8
  have hzl := hz.len
  have hrl := hr.len
  by_cases h60 : 60 < n0
  · have q0 : (60 : Int) < n0 := by omega
    go_enter Try.func9, Try.ntmps9
    go_wp2_with fail
    refine (awake_any _).mono ?_
    rintro e w5 ⟨rfl, hb5⟩
    go_wp2
    go_ret
    exact ⟨rfl, hb5⟩
  have q0 : (n0 : Int) ≤ 60 := by omega
  by_cases h20 : 20 < n1
  · have q1 : (20 : Int) < n1 := by omega
    go_enter Try.func9, Try.ntmps9
    go_wp2_with fail
    refine (awake_any _).mono ?_
    rintro e w5 ⟨rfl, hb5⟩
    go_wp2
    go_ret
    exact ⟨rfl, hb5⟩
  have q1 : (n1 : Int) ≤ 20 := by omega
  by_cases h200 : 200 < n2
  · have q2 : (200 : Int) < n2 := by omega
    go_enter Try.func9, Try.ntmps9
    go_wp2_with fail
    refine (awake_any _).mono ?_
    rintro e w5 ⟨rfl, hb5⟩
    go_wp2
    go_ret
    exact ⟨rfl, hb5⟩
  have q2 : (n2 : Int) ≤ 200 := by omega
  have hzw : ∀ r, r < n0 → -9223372036854775808 ≤ zs.getD r 0 ∧ zs.getD r 0 ≤ 9223372036854775807 := by
    intro r hr0
    have := hz.wf (zs[r]'(by omega)) (List.getElem_mem _)
    have h2 := wf_i64 this
    simpa [show r < zs.length by omega] using h2
  have HZw := Lib.hid hzw
  have HI : Hid (∀ j, j < n0 → encI (zs.take (j + 1)) = encI (zs.take j) ++ varint (zz (zs.getD j 0))) := fun j hj => encI_step zs j (by omega)
  have HIl : Hid (∀ j, (encI (zs.take j)).length ≤ 10 * j) := fun j => by
    have := encI_len (zs.take j)
    have h2 : (zs.take j).length ≤ j := by simp; omega
    omega
  have HIn : Hid (zs.take n0 = zs) := List.take_of_length_le (by omega)
  have HB : Hid (∀ j, j < n1 → encB (ll.take (j + 1)) = encB (ll.take j) ++ (varint (ll.getD j []).length ++ ll.getD j [])) := fun j hj => encB_step ll j (by omega)
  have HBl : Hid (∀ j, (∀ b ∈ ll.take j, b.length ≤ 50) → (encB (ll.take j)).length ≤ 60 * j) := fun j hj => by
    have := encB_len (ll.take j) hj
    have h2 : (ll.take j).length ≤ j := by simp; omega
    omega
  have HBn : Hid (ll.take n1 = ll) := List.take_of_length_le (by omega)
  have HBt : Hid (∀ j, j < n1 → (∀ b ∈ ll.take j, b.length ≤ 50) → (ll.getD j []).length ≤ 50 → ∀ b ∈ ll.take (j + 1), b.length ≤ 50) := fun j hj h1 h2 b hb => by
    rw [List.take_succ_eq_append_getElem (show j < ll.length by omega)] at hb
    rcases List.mem_append.1 hb with hb | hb
    · exact h1 b hb
    · simp only [List.mem_singleton] at hb
      subst hb
      simpa [show j < ll.length by omega] using h2
  have HG : Hid (∀ j, j < n0 → gu (l ++ encI zs ++ encB ll) (l ++ encI (zs.take j)).length = (zz (zs.getD j 0), (l ++ encI (zs.take (j + 1))).length, 0)) := fun j hj => list_int l zs ll j (by omega) (hzw j hj)
  have HGb : Hid (∀ j, j < n1 → (ll.getD j []).length ≤ 50 → gb (l ++ encI zs ++ encB ll) (l ++ encI zs ++ encB (ll.take j)).length 50 = (ll.getD j [], (l ++ encI zs ++ encB (ll.take (j + 1))).length, 0)) := fun j hj hb => list_blob l zs ll j (by omega) hb
  have HC := Lib.hid (fun h : 0 < n0 => ints_cell hz h)
  have HR := Lib.hid hr
  clear hzw hzl hrl hat h8 hz hr h60 h20 h200
  subst hl
  have g0 : decide ((60 : Int) < (n0 : Int)) = false := by simp; omega
  have g1 : decide ((20 : Int) < (n1 : Int)) = false := by simp; omega
  have g2 : decide ((200 : Int) < (l.length : Int)) = false := by simp; omega
  go_enter Try.func9, Try.ntmps9
  go_wp2_with fail
  refine (copy_bs _ l _ hbl (by omega)).mono ?_
  rintro e w1 ⟨v1, rfl, _, hv1, hb1⟩
  go_wp2_with fail
  go_loopw [7, 8] (fun v i wr => ∃ j : Nat, j ≤ n0 ∧ i = .int .i64 (j : Int) ∧ Bs wr v (l ++ encI (zs.take j)) ∧ Below w.heap.size w wr) (fun _ i _ => n0 - (intOf i).toNat)
  case atStart => exact ⟨0, Nat.zero_le _, rfl, by simpa [encI] using hv1, hb1⟩
  case round =>
    obtain ⟨j, hj, rfl, hv, hbw⟩ := hrel
    by_cases hlt : j < n0
    · obtain ⟨b0, o0, rfl, hb0, hc0⟩ := HC.out (by omega)
      have hcell := (hbw.cell (p := ⟨b0, o0 + j, none⟩) hb0).trans (hc0 j hlt)
      obtain ⟨hz0, hz1⟩ := HZw.out j hlt
      have hst := HI.out j hlt
      have hln := HIl.out j
      generalize zs.getD j 0 = z at *
      have HS := Lib.hid hst
      clear hst hc0
      go_wp2_with fail
      refine (int_bs _ _ z _ hv (by simp; omega) hz0 hz1).mono ?_
      rintro e w2 ⟨v2, rfl, _, hv2, hb2⟩
      rw [List.append_assoc, ← HS.out] at hv2
      go_wp2
      go_roundw
      case rel => exact ⟨j + 1, by omega, by go_num, hv2, nxt hbw hb2⟩
      case measure => simp [intOf]; omega
    · obtain rfl : n0 = j := by omega
      rw [HIn.out] at hv
      have hIl := HIl.out n0
      rw [HIn.out] at hIl
      clear hv1 hb1 hlt
      have hv0 := hv
      have hbw0 := hbw
      clear hv hbw
      go_wp2_with fail
      go_loopw [7, 9] (fun v i wr => ∃ j : Nat, j ≤ n1 ∧ i = .int .i64 (j : Int) ∧ Hid (∀ b ∈ ll.take j, b.length ≤ 50) ∧ Bs wr v (l ++ encI zs ++ encB (ll.take j)) ∧ Below w.heap.size w wr) (fun _ i _ => n1 - (intOf i).toNat)
      case atStart => exact ⟨0, Nat.zero_le _, rfl, (fun b hb => by simp at hb), by simpa [encB] using hv0, hbw0⟩
      case round =>
        obtain ⟨j, hj, rfl, hlong, hv, hbw⟩ := hrel
        by_cases hlt : j < n1
        · obtain ⟨b1, o1, rfl, _, hrow⟩ := (HR.out.below hbw).row (by omega)
          obtain ⟨A, k, hcell, hbr⟩ := hrow j hlt
          have hst := HB.out j hlt
          have hln := HBl.out j hlong.out
          have hnx := HBt.out j hlt hlong.out
          generalize ll.getD j [] = lb at *
          have HS := Lib.hid hst
          have HN := Lib.hid hnx
          clear hst hrow hnx hv0 hbw0
          by_cases h50 : 50 < lb.length
          · have q5 : (50 : Int) < lb.length := by omega
            go_wp2_with fail
            refine (awake_any _).mono ?_
            rintro e w5 ⟨rfl, hb5⟩
            go_wp2
            go_ret
            exact ⟨rfl, nxt hbw hb5⟩
          · have g5 : decide ((50 : Int) < (lb.length : Int)) = false := by simp; omega
            have hlb : lb.length ≤ 50 := by omega
            go_wp2_with fail
            refine (blob_bs _ _ _ lb _ hv hbr (by simp; omega) (by omega)).mono ?_
            rintro e w2 ⟨v2, rfl, _, hv2, hb2⟩
            rw [List.append_assoc, List.append_assoc, ← HS.out] at hv2
            go_wp2
            go_roundw
            case rel => exact ⟨j + 1, by omega, by go_num, HN.out hlb, hv2, nxt hbw hb2⟩
            case measure => simp [intOf]; omega
        · obtain rfl : n1 = j := by omega
          rw [HBn.out] at hv
          have hBl := HBl.out n1 hlong.out
          have hall := hlong.out
          rw [HBn.out] at hBl hall
          have H50 : Hid (∀ r, r < n1 → (ll.getD r []).length ≤ 50) := fun r hr => by
            have hrl := HR.out.len
            have := hall (ll[r]'(by omega)) (List.getElem_mem _)
            simpa [show r < ll.length by omega] using this
          have hTl : (l ++ encI zs ++ encB ll).length ≤ 1099511627776 := by simp; omega
          obtain ⟨P, hP⟩ : ∃ P : Nat → Nat, ∀ j, P j = (l ++ encI (zs.take j)).length := ⟨_, fun _ => rfl⟩
          obtain ⟨Q, hQ⟩ : ∃ Q : Nat → Nat, ∀ j, Q j = (l ++ encI zs ++ encB (ll.take j)).length := ⟨_, fun _ => rfl⟩
          have HG' : Hid (∀ r, r < n0 → gu (l ++ encI zs ++ encB ll) (P r) = (zz (zs.getD r 0), P (r + 1), 0)) := fun r hr => by rw [hP, hP]; exact HG.out r hr
          have HGb' : Hid (∀ r, r < n1 → gb (l ++ encI zs ++ encB ll) (Q r) 50 = (ll.getD r [], Q (r + 1), 0)) := fun r hr => by rw [hQ, hQ]; exact HGb.out r hr (H50.out r hr)
          have HPle : Hid (∀ r, r < n0 → P r ≤ (l ++ encI zs ++ encB ll).length) := fun r hr => by
            have hb := gu_bounds (l ++ encI zs ++ encB ll) (P r)
            rw [hP]
            have e := HI.out r hr
            have hle : (encI (zs.take r)).length ≤ (encI zs).length := by
              have := congrArg encI (List.take_append_drop r zs)
              rw [encI_append] at this
              rw [← this]
              simp
            simp
            omega
          have HQle : Hid (∀ r, r < n1 → Q r ≤ (l ++ encI zs ++ encB ll).length) := fun r hr => by
            rw [hQ]
            have hle : (encB (ll.take r)).length ≤ (encB ll).length := by
              have := congrArg encB (List.take_append_drop r ll)
              rw [encB_append] at this
              rw [← this]
              simp
            simp
            omega
          have HP0 : Hid (P 0 = l.length) := by
            show _ = _
            rw [hP]
            simp [encI]
          have HPn : Hid (P n0 = Q 0) := by
            show _ = _
            rw [hP, hQ, HIn.out]
            simp [encB]
          have HQn : Hid (Q n1 = (l ++ encI zs ++ encB ll).length) := by
            show _ = _
            rw [hQ, HBn.out]
          obtain ⟨⟨A7, c7, rfl, -, -⟩, -⟩ := id hv
          generalize l ++ encI zs ++ encB ll = T at *
          clear hv0 hbw0 hlong hlt hall hP hQ HG HGb HI HIl HIn HB HBl HBn HBt hIl hBl
          go_wp2_with fail
          go_loop [10, 11] (fun a i => ∃ r : Nat, r ≤ n0 ∧ i = .int .i64 (r : Int) ∧ a = .int .i64 (P r : Int)) (fun _ i => n0 - (intOf i).toNat)
          case atStart => exact ⟨0, Nat.zero_le _, rfl, by rw [HP0.out]⟩
          case round =>
            obtain ⟨r, hr, rfl, rfl⟩ := hrel
            by_cases hlt : r < n0
            · obtain ⟨b0, o0, rfl, hb0, hc0⟩ := HC.out (by omega)
              have hcell := (hbw.cell (p := ⟨b0, o0 + r, none⟩) hb0).trans (hc0 r hlt)
              have hG := HG'.out r hlt
              generalize zs.getD r 0 = z at *
              have HGr := Lib.hid hG
              have hzz : (z != z) = false := by simp
              have hr0 : (r : Int) < n0 := by omega
              clear hG hc0
              go_wp2_with fail
              refine (getint_bs _ T (P r) _ hv hTl (HPle.out r hlt)).mono ?_
              rintro e w2 ⟨rfl, rfl⟩
              rw [HGr.out]
              dsimp only
              rw [un_zz]
              go_wp2
              go_round
              case rel => exact ⟨r + 1, by omega, by go_num, rfl⟩
              case measure => simp [intOf]; omega
            · obtain rfl : n0 = r := by omega
              clear hlt
              go_wp2_with fail
              go_loopw [10, 15] (fun a i wq => ∃ q : Nat, q ≤ n1 ∧ i = .int .i64 (q : Int) ∧ a = .int .i64 (Q q : Int) ∧ Below wr.heap.size wr wq) (fun _ i _ => n1 - (intOf i).toNat)
              case atStart => exact ⟨0, Nat.zero_le _, rfl, by rw [HPn.out], Below.refl _ _⟩
              case round =>
                obtain ⟨q, hq, rfl, rfl, hbq⟩ := hrel
                by_cases hlt : q < n1
                · obtain ⟨b1, o1, rfl, hbk, hrow⟩ := ((HR.out.below hbw).below hbq).row (by omega)
                  obtain ⟨A, k, hcell, hbr⟩ := hrow q hlt
                  have hG := HGb'.out q hlt
                  generalize ll.getD q [] = lb at *
                  have HGr := Lib.hid hG
                  have hq0 : (q : Int) < n1 := by omega
                  have hvq := hv.below hbq
                  clear hG hrow
                  go_wp2_with fail
                  refine (getblob_bs _ T (Q q) 50 _ hvq hTl (HQle.out q hlt) (by omega) (by omega)).mono ?_
                  rintro e w2 ⟨v2, rfl, _, hv2, hb2⟩
                  rw [HGr.out] at hv2 ⊢
                  dsimp only at hv2 ⊢
                  have hbr2 := hbr.below hb2
                  have hcell2 := (hb2.cell (p := ⟨b1, o1 + q, none⟩) hbk).trans hcell
                  clear hcell hbr
                  go_wp2_with fail
                  refine (same_bs _ _ lb lb true _ hv2 hbr2 (by simp)).mono ?_
                  rintro e w3 ⟨rfl, rfl⟩
                  go_wp2
                  go_roundw
                  case rel => exact ⟨q + 1, by omega, by go_num, rfl, nxt hbq hb2⟩
                  case measure => simp [intOf]; omega
                · obtain rfl : n1 = q := by omega
                  rw [HQn.out]
                  go_wp2_with fail
                  refine (awake_any _).mono ?_
                  rintro e w3 ⟨rfl, hb3⟩
                  go_wp2
                  go_ret
                  exact ⟨rfl, nxt (nxt hbw hbq) hb3⟩

set_option maxRecDepth 100000 in
theorem lifted (os : Os) (started : os.Started) (H : Type) (enc : TypeId × Value → H) :
    ReturnsInHanded {} Try.checked os 9 .any (Rows.bytesListSpec.pre6 enc Try.prog Try.f9 Rows.bytesListRow.domain false) (Rows.bytesListSpec.post enc Try.prog Try.f9 false true false false) := by
  refine returnsInHanded_of_change (C := Try.checked) knob_own started (by kernel_rfl) Try.func9
    (ChangeSpec.witness6 (enc := enc) (C := Try.checked) false ⟨#[], #[.slice none 0 0, .slice none 0 0, .slice none 0 0], []⟩ 8 (by kernel_rfl) (by kernel_rfl) (by kernel_rfl) (by kernel_rfl)) ?_
  intro W base args ds gs before hval0 hW hcnd _
  have hval : ∀ (j : Nat) t v, Try.f9.params[j]? = some t → args[j]? = some v → Value.okWide Try.prog W .any base t v := hval0
  have hW' := hW
  obtain ⟨p, q, hA0, hV, rfl, hfz, hnd⟩ := hW
  have hA : DataW.TrodAll enc Try.prog W 0 (fun _ => true) true Try.f9.params.toList args.toList ds p := hA0
  rw [Try.params9] at hA hval
  obtain ⟨v0, vs0, d0, ds0, p0, q0, hargs, rfl, rfl, h0, r0⟩ := trodAll_cons hA
  obtain ⟨v1, vs1, d1, ds1, p1, q1, rfl, rfl, rfl, h1, r1⟩ := trodAll_cons r0
  obtain ⟨v2, vs2, d2, ds2, p2, q2, rfl, rfl, rfl, h2, r2⟩ := trodAll_cons r1
  obtain ⟨rfl, rfl, rfl⟩ := trodAll_nil r2
  obtain rfl : args = #[v0, v1, v2] := by cases args; simp_all
  obtain ⟨rfl, rfl⟩ := trodVars_none hV
  obtain ⟨a0, n0, c0, rfl⟩ := okWide_slice Try.underlying22 (hval 0 22 v0 rfl rfl)
  have k0 := h0
  have lt0 : ∀ x ∈ p0, x.block < W.heap.size := by obtain ⟨m, hm⟩ := k0; exact DataW.trod_lt m _ _ _ hm
  have z0 : ∃ zs, Ints .i64 W a0 n0 c0 zs := by
    obtain ⟨fuel, hf⟩ := h0
    rcases open_ints Try.underlying22 Try.underlying2 (by kernel_rfl) hf with ⟨hcs, _⟩ | ⟨x, l, c, zs, hcs, _, hl, hm, hz, _, hcell, hwz⟩
    · simp [Value.cells] at hcs
      obtain ⟨rfl, rfl, rfl⟩ := hcs
      exact ⟨[], ints_nil _ _⟩
    · simp [Value.cells] at hcs
      obtain ⟨rfl, rfl, rfl⟩ := hcs
      exact ⟨_, ints_some .i64 W x _ _ zs hl hm (by simpa using hz) hcell hwz⟩
  have w0 := z0
  obtain ⟨a1, n1, c1, rfl⟩ := okWide_slice Try.underlying52 (hval 1 52 v1 rfl rfl)
  have k1 := h1
  have lt1 : ∀ x ∈ p1, x.block < W.heap.size := by obtain ⟨m, hm⟩ := k1; exact DataW.trod_lt m _ _ _ hm
  have w1 := brows_open h1
  obtain ⟨a2, n2, c2, rfl⟩ := okWide_slice Try.underlying23 (hval 2 23 v2 rfl rfl)
  have k2 := h2
  have lt2 : ∀ x ∈ p2, x.block < W.heap.size := by obtain ⟨m, hm⟩ := k2; exact DataW.trod_lt m _ _ _ hm
  have z2 : ∃ zs, Ints .u8 W a2 n2 c2 zs := by
    obtain ⟨fuel, hf⟩ := h2
    rcases open_ints Try.underlying23 Try.underlying5 (by kernel_rfl) hf with ⟨hcs, _⟩ | ⟨x, l, c, zs, hcs, _, hl, hm, hz, _, hcell, hwz⟩
    · simp [Value.cells] at hcs
      obtain ⟨rfl, rfl, rfl⟩ := hcs
      exact ⟨[], ints_nil _ _⟩
    · simp [Value.cells] at hcs
      obtain ⟨rfl, rfl, rfl⟩ := hcs
      exact ⟨_, ints_some .u8 W x _ _ zs hl hm (by simpa using hz) hcell hwz⟩
  have w2 := z2.elim fun _ h => h.bytes
  clear hA0 hval0
  refine (walk W a0 n0 c0 a1 n1 c1 a2 n2 c2 w0 w1 w2).mono fun e W' ⟨he, bel⟩ => ?_
  subst he
  exact ⟨_, rfl, _, _, _, [], _, [], hW', trodAll_mk1 (shut_bool Try.underlying4 _), (trodAll_cons_mk (Below.trod laid_out (by kernel_rfl) (of_decide_eq_true (by kernel_rfl)) k0 bel lt0) (trodAll_cons_mk (Below.trod laid_out (by kernel_rfl) (of_decide_eq_true (by kernel_rfl)) k1 bel lt1) (trodAll_cons_mk (Below.trod laid_out (by kernel_rfl) (of_decide_eq_true (by kernel_rfl)) k2 bel lt2) (trodAll_mk0)))), rfl, bel.frame _, fun h => by cases h⟩

theorem over : Rows.bytesListRow.holds Try.pinned (OpenSpec.ofChange Rows.bytesListSpec) :=
  OpenClaim.holds_of_wide 9 Try.f9 rfl rfl rfl rfl rfl rfl rfl ⟨rfl, rfl, rfl, rfl, rfl⟩ rfl rfl rfl rfl rfl (by kernel_rfl) Try.func9 (by kernel_rfl)
    (of_decide_eq_true (by kernel_rfl)) (by unfold Func.isWrapper; first | (rw [if_pos (by decide +kernel)]; kernel_rfl) | (rw [if_neg (by decide +kernel)]; exact ⟨rfl, rfl⟩))
    (fun os started H enc _ => lifted os started H enc)

theorem proved : Rows.BytesListSaid := over
end Go.Proofs.Ytafjkbmkoghmkaa.bytesList
