/- droverlaw01.BytesBurst returns true whatever its arguments: if up to four bytes next to each other are others, what is sealed is refused. For every input, without conditions. -/
import Derived.Test.YtafjkbmkoghmkaaRow
import Derived.Test.YtafjkbmkoghmkaaAwake
import Derived.Test.YtafjkbmkoghmkaaOwn2
import Derived.Deep.RegionHeld3
import Derived.StillTailTactics
import Derived.Lib.SmallJoins
namespace Go.Proofs.Ytafjkbmkoghmkaa.bytesBurst
open Go.ChangeShapes Go.WideShapes Go.ChangeAt Go.RowKit
set_option linter.unusedVariables false

theorem arr4_open {H : Type} {enc : TypeId × Value → H} {W : World} {base : Nat} {v : Value} {d : DataW H} {p : List MemPlace} (hv : Value.okWide Try.prog W .any base 50 v)
    (h : DataW.Trod enc Try.prog W 0 (fun _ => true) true 50 v d p) :
    ∃ x y z u : Int, v = .agg #[.int .u8 x, .int .u8 y, .int .u8 z, .int .u8 u] ∧ (Lit.int .u8 x).wf = true ∧ (Lit.int .u8 y).wf = true ∧ (Lit.int .u8 z).wf = true ∧ (Lit.int .u8 u).wf = true := by
  have hC : Try.prog.cellsOf 50 = 4 := by kernel_rfl
  have hE : Try.prog.cellsOf 5 = 1 := by kernel_rfl
  simp only [Value.okWide, Try.underlying50] at hv
  obtain ⟨cs, rfl, hs, _⟩ := hv
  obtain ⟨c0, c1, c2, c3, rfl⟩ := Joins.array4 (hs.trans hC)
  obtain ⟨fuel, hf⟩ := h
  obtain ⟨xs, m, _, _, _, hx, hi⟩ := DataW.trod_array Try.underlying50 hf
  have hcs : (Value.agg #[c0, c1, c2, c3]).cells.toList = [c0, c1, c2, c3] := rfl
  rw [hcs] at hi
  have h0 := hi 0 (by omega)
  have h1 := hi 1 (by omega)
  have h2 := hi 2 (by omega)
  have h3 := hi 3 (by omega)
  rw [hE] at h0 h1 h2 h3
  rw [List.getElem?_eq_getElem (by omega)] at h0 h1 h2 h3
  obtain ⟨x, e0, _, k0⟩ := DataW.trod_int Try.underlying5 h0
  obtain ⟨y, e1, _, k1⟩ := DataW.trod_int Try.underlying5 h1
  obtain ⟨z, e2, _, k2⟩ := DataW.trod_int Try.underlying5 h2
  obtain ⟨u, e3, _, k3⟩ := DataW.trod_int Try.underlying5 h3
  simp at e0 e1 e2 e3
  subst e0
  subst e1
  subst e2
  subst e3
  exact ⟨x, y, z, u, rfl, k0, k1, k2, k3⟩
/-- The list l behind j rounds: from place p on each byte is held against t's. -/
def burj (l : List Nat) (p : Nat) (t : List Nat) : Nat → List Nat
  | 0 => l
  | j + 1 => (burj l p t j).set (p + j) (l.getD (p + j) 0 ^^^ t.getD j 0)
theorem burj_len (l : List Nat) (p : Nat) (t : List Nat) (j : Nat) : (burj l p t j).length = l.length := by
  induction j with
  | zero => rfl
  | succ j ih => simp [burj, ih]
theorem burj_get (l : List Nat) (p : Nat) (t : List Nat) (j i : Nat) (h : p + j ≤ i) : (burj l p t j).getD i 0 = l.getD i 0 := by
  induction j with
  | zero => rfl
  | succ j ih =>
    unfold burj
    rw [← ih (by omega)]
    simp [List.getD, show ¬ p + j = i by omega]
theorem burj_bytes (l : List Nat) (p : Nat) (t : List Nat) (h8 : ∀ x ∈ l, x < 256) (ht : ∀ x ∈ t, x < 256) (j : Nat) : ∀ x ∈ burj l p t j, x < 256 := by
  induction j with
  | zero => exact h8
  | succ j ih =>
    intro x hx
    rcases List.mem_or_eq_of_mem_set hx with h | h
    · exact ih x h
    · subst h
      have get8 : ∀ (m : List Nat) (i : Nat), (∀ x ∈ m, x < 256) → m.getD i 0 < 256 := by
        intro m i hm
        by_cases hi : i < m.length
        · have := hm (m[i]) (List.getElem_mem hi)
          simpa [hi] using this
        · simp [List.getD, List.getElem?_eq_none (show m.length ≤ i by omega)]
      exact Nat.xor_lt_two_pow (n := 8) (get8 l _ h8) (get8 t _ ht)
theorem lxor_set_right : ∀ (a b : List Nat) (i y : Nat), a.length = b.length → lxor a (b.set i y) = (lxor a b).set i (a.getD i 0 ^^^ y)
  | [], [], i, y, _ => by simp [lxor]
  | [], _ :: _, _, _, h => by simp at h
  | _ :: _, [], _, _, h => by simp at h
  | x :: a, z :: b, 0, y, _ => by
    simp [lxor]
  | x :: a, z :: b, i + 1, y, h => by
    have := lxor_set_right a b i y (by simpa using h)
    simp only [List.set_cons_succ, lxor, this, List.getD_cons_succ]
theorem burj_lxor (l : List Nat) (p : Nat) (t : List Nat) (j : Nat) (hp : p + j ≤ l.length) (hj : j ≤ t.length) :
    lxor l (burj l p t j) = List.replicate p 0 ++ t.take j ++ List.replicate (l.length - p - j) 0 := by
  induction j with
  | zero =>
    show lxor l l = _
    rw [lxor_self]
    simp
    omega
  | succ j ih =>
    unfold burj
    rw [lxor_set_right _ _ _ _ (burj_len l p t j).symm, ih (by omega) (by omega), ← Nat.xor_assoc, Nat.xor_self, Nat.zero_xor]
    rw [List.append_assoc, List.set_append_right _ _ (by simp), List.length_replicate, Nat.add_sub_cancel_left, List.set_append_right _ _ (by simp; omega)]
    have e : j - (t.take j).length = 0 := by simp; omega
    rw [e, show l.length - p - j = (l.length - p - (j + 1)) + 1 by omega, List.replicate_succ, List.set_cons_zero, List.take_succ_eq_append_getElem (l := t) (i := j) (by omega)]
    have e2 : t.getD j 0 = t[j] := by simp [show j < t.length by omega]
    rw [e2, List.append_assoc, List.append_assoc]
    rfl
/-- Is one of the first j bytes not 0? -/
def anyj (t : List Nat) (j : Nat) : Bool := (t.take j).any fun x => x != 0
theorem anyj_succ (t : List Nat) (j : Nat) (h : j < t.length) : anyj t (j + 1) = (anyj t j || t.getD j 0 != 0) := by
  unfold anyj
  rw [List.take_succ_eq_append_getElem h, List.any_append]
  have e2 : t.getD j 0 = t[j] := by simp [h]
  rw [e2]
  simp
theorem burst_crc (l : List Nat) (p : Nat) (t : List Nat) (j : Nat) (hp : p + j ≤ l.length) (hj : j ≤ t.length) (h4 : j ≤ 4) (h8 : ∀ x ∈ l, x < 256) (ht : ∀ x ∈ t, x < 256) (hc : anyj t j = true) : crcN l ≠ crcN (burj l p t j) := by
  refine crcN_burst l (burj l p t j) p (l.length - p - j) (t.take j) h8 (burj_bytes l p t h8 ht j) (burj_len l p t j).symm (by simp; omega) (fun x hx => ht x (List.mem_of_mem_take hx)) ?_ (burj_lxor l p t j hp hj)
  unfold anyj at hc
  obtain ⟨x, hx, hx0⟩ := List.any_eq_true.1 hc
  exact ⟨x, hx, by simpa using hx0⟩
theorem us_other (l X : List Nat) (hl : X.length = l.length) (hne : crcN l ≠ crcN X) : us (X ++ be4 (crcN l)) = ([], 12) := by
  have hs : crcN l < 4294967296 := by unfold crcN; omega
  unfold us
  have e : (X ++ be4 (crcN l)).length - 4 = X.length := by simp [be4_length]
  rw [if_neg (by simp [be4_length]), e, List.drop_left, List.take_left, beN_be4 _ hs, if_neg hne]

set_option maxRecDepth 100000 in
set_option maxHeartbeats 1000000 in
theorem walk (w : World) (a0 : Option Addr) (n0 c0 : Nat) (a1 : Int) (x2 y2 z2 u2 : Int) (w0 : ∃ l : List Nat, l.length = n0 ∧ n0 ≤ c0 ∧ At w w.heap.size a0 (bv l) ∧ (∀ x ∈ l, x < 256)) (w1 : (Lit.int .i64 a1).wf = true) (w2 : (Lit.int .u8 x2).wf = true ∧ (Lit.int .u8 y2).wf = true ∧ (Lit.int .u8 z2).wf = true ∧ (Lit.int .u8 u2).wf = true) :
    Calls Try.prog 8 #[.slice a0 n0 c0, .int .i64 a1, .agg #[.int .u8 x2, .int .u8 y2, .int .u8 z2, .int .u8 u2]] w fun e w' => e = .returned (.bool true) ∧ Below w.heap.size w w' := by
  obtain ⟨l, hl, hc, hat, h8⟩ := w0
  have hbl := Bs.of_at hat hl hc h8
  obtain ⟨x, rfl, hx8⟩ := wf_u8 w2.1
  obtain ⟨y, rfl, hy8⟩ := wf_u8 w2.2.1
  obtain ⟨z, rfl, hz8⟩ := wf_u8 w2.2.2.1
  obtain ⟨u, rfl, hu8⟩ := wf_u8 w2.2.2.2
  clear w1 w2
  by_cases hbig : n0 = 0 ∨ 500 < n0
  · by_cases h0 : n0 = 0
    · subst h0
      go_enter Try.func8, Try.ntmps8
      go_wp2_with fail
      refine (awake_any _).mono ?_
      rintro e w5 ⟨rfl, hb5⟩
      go_wp2
      go_ret
      exact ⟨rfl, nxt ((Below.refl _ _).alloc (Nat.le_refl _) _) hb5⟩
    · have h5 : (500 : Int) < n0 := by omega
      have h0' : ((n0 : Int) == 0) = false := by simp; omega
      clear hbig h0
      go_enter Try.func8, Try.ntmps8
      go_wp2_with fail
      refine (awake_any _).mono ?_
      rintro e w5 ⟨rfl, hb5⟩
      go_wp2
      go_ret
      exact ⟨rfl, nxt ((Below.refl _ _).alloc (Nat.le_refl _) _) hb5⟩
  · have h5 : (n0 : Int) ≤ 500 := by omega
    have h0' : ((n0 : Int) == 0) = false := by simp; omega
    have h1 : (1 : Int) ≤ n0 := by omega
    clear hbig
    go_enter Try.func8, Try.ntmps8
    subst hl
    have hp0 := Int.emod_nonneg a1 (show (l.length : Int) ≠ 0 by omega)
    have hp1 := Int.emod_lt_of_pos a1 (show (0 : Int) < (l.length : Int) by omega)
    obtain ⟨p, hp⟩ : ∃ p : Nat, a1 % (l.length : Int) = (p : Int) := ⟨(a1 % (l.length : Int)).toNat, by omega⟩
    have hpl : p < l.length := by omega
    have HP := Lib.hid hp
    clear hp hp0 hp1
    have ht8 : ∀ b ∈ [x, y, z, u], b < 256 := by
      intro b hb
      simp at hb
      omega
    have hWc : ∀ j, j < 4 → (w.alloc (.cells #[.int .u8 (x : Int), .int .u8 (y : Int), .int .u8 (z : Int), .int .u8 (u : Int)] 50)).cell? ⟨w.heap.size, j, none⟩ = some (.int .u8 (([x, y, z, u].getD j 0 : Nat) : Int)) := by
      intro j hj
      rw [World.cell?_alloc_at _ _ _ _ rfl]
      rcases j with _ | _ | _ | _ | j
      · rfl
      · rfl
      · rfl
      · rfl
      · omega
    have hbl1 := hbl.alloc (.cells #[.int .u8 (x : Int), .int .u8 (y : Int), .int .u8 (z : Int), .int .u8 (u : Int)] 50)
    have hbw1 : Below w.heap.size w (w.alloc (.cells #[.int .u8 (x : Int), .int .u8 (y : Int), .int .u8 (z : Int), .int .u8 (u : Int)] 50)) := (Below.refl _ _).alloc (Nat.le_refl _) _
    have hsz : (w.alloc (.cells #[.int .u8 (x : Int), .int .u8 (y : Int), .int .u8 (z : Int), .int .u8 (u : Int)] 50)).heap.size = w.heap.size + 1 := by simp
    go_wp2_with fail
    generalize w.alloc (.cells #[.int .u8 (x : Int), .int .u8 (y : Int), .int .u8 (z : Int), .int .u8 (u : Int)] 50) = W1 at *
    have hG : w.heap.size < W1.heap.size := by omega
    clear hsz
    refine (pick_any a1 (l.length : Int) _ (by omega) (by omega)).mono ?_
    rintro e w2 ⟨rfl, rfl⟩
    rw [HP.out]
    go_wp2_with fail
    refine (copy_bs _ l _ hbl1 (by omega)).mono ?_
    rintro e w2 ⟨v2, rfl, ho2, _, hb2⟩
    obtain ⟨g, c2, rfl, hg, hgc⟩ := ho2.head (by intro h; rw [h] at hpl; simp at hpl)
    have hcrc : ∀ j, p + j ≤ l.length → j ≤ 4 → anyj [x, y, z, u] j = true → crcN l ≠ crcN (burj l p [x, y, z, u] j) := fun j h1 h2 h3 => burst_crc l p [x, y, z, u] j h1 h2 h2 h8 ht8 h3
    have HC := Lib.hid hcrc
    have hB8 := fun j => burj_bytes l p [x, y, z, u] h8 ht8 j
    have hBl := fun j => burj_len l p [x, y, z, u] j
    have hBg := fun j => burj_get l p [x, y, z, u] j
    have hBs : ∀ j, burj l p [x, y, z, u] (j + 1) = (burj l p [x, y, z, u] j).set (p + j) (l.getD (p + j) 0 ^^^ [x, y, z, u].getD j 0) := fun j => rfl
    have hB0 : burj l p [x, y, z, u] 0 = l := rfl
    have hA0 : anyj [x, y, z, u] 0 = false := rfl
    have hAs : ∀ j, j < 4 → anyj [x, y, z, u] (j + 1) = (anyj [x, y, z, u] j || [x, y, z, u].getD j 0 != 0) := fun j hj => anyj_succ _ j hj
    have HBl := Lib.hid hBl
    have HBg := Lib.hid hBg
    have HBs := Lib.hid hBs
    have HAs := Lib.hid hAs
    have HB8 := Lib.hid hB8
    have HWc := Lib.hid hWc
    generalize hT : ([x, y, z, u] : List Nat) = T at *
    clear hcrc hBl hBg hBs hAs hB8 hWc hT
    rw [← hB0] at ho2
    have HA0 := Lib.hid hA0
    clear hB0 hA0
    go_wp2_with fail
    go_loopw [8, 9] (fun ch i wr => ∃ j : Nat, j ≤ 4 ∧ p + j ≤ l.length ∧ i = .int .i64 (j : Int) ∧ ch = .bool (anyj T j) ∧ Own wr W1.heap.size (.slice (some ⟨g, 0, none⟩) l.length c2) (burj l p T j) ∧ Below W1.heap.size W1 wr) (fun _ i _ => 4 - (intOf i).toNat)
    case atStart => exact ⟨0, by omega, by omega, rfl, by rw [HA0.out], ho2, hb2⟩
    case round =>
      obtain ⟨j, hj4, hjl, rfl, rfl, ho, hbw⟩ := hrel
      have hblr := hbl1.below hbw
      by_cases hgo : j < 4 ∧ p + j < l.length
      · obtain ⟨hj, hpj⟩ := hgo
        have hul := HBl.out j
        have ho' : Own wr W1.heap.size (.slice (some ⟨g, 0, none⟩) (burj l p T j).length c2) (burj l p T j) := by rw [hul]; exact ho
        have hfro := Own.frozenAt ho' (p + j) rfl
        have hcx := Own.cellAt ho' (p + j) (by omega)
        rw [HBg.out j (p + j) (Nat.le_refl _)] at hcx
        have hst := Own.stored ho' (p + j) (l.getD (p + j) 0 ^^^ T.getD j 0)
        rw [← HBs.out, hul] at hst
        have hct : wr.cell? ⟨w.heap.size, j, none⟩ = some (.int .u8 ((T.getD j 0 : Nat) : Int)) := (hbw.cell (p := ⟨w.heap.size, j, none⟩) hG).trans (HWc.out j hj)
        have hlx : l.getD (p + j) 0 < 256 := by
          have := h8 (l[p + j]) (List.getElem_mem hpj)
          simpa [hpj] using this
        have htx : T.getD j 0 < 256 := by
          by_cases hi : j < T.length
          · have := ht8 (T[j]) (List.getElem_mem hi)
            simpa [hi] using this
          · simp [List.getD, List.getElem?_eq_none (show T.length ≤ j by omega)]
        have HAj := Lib.hid (HAs.out j hj)
        clear hul ho ho' hblr
        generalize l.getD (p + j) 0 = lx at *
        generalize T.getD j 0 = tx at *
        generalize anyj T j = ch at *
        have q1 : (0 : Int) ≤ p := by omega
        have q2 : (0 : Int) ≤ j := by omega
        have q3 : (j : Int) < 4 := by omega
        have q4 : (p : Int) + j < l.length := by omega
        have s2 : (0 : Int) ≤ (p : Int) + j := by omega
        have s3 : ((p : Int) + j).toNat = p + j := by omega
        have s1 : IntKind.i64.wrap ((p : Int) + j) = (p : Int) + j := IntWalk.i64_in _ (by omega)
        have hbx : bits BinOp.xor IntKind.u8 (lx : Int) (tx : Int) = ((lx ^^^ tx : Nat) : Int) := u8_xor_nat lx tx hlx htx
        have HBx := Lib.hid hbx
        clear hbx
        have hw2 : Below W1.heap.size W1 (wr.setCell ⟨g, p + j, none⟩ (.int .u8 ((lx ^^^ tx : Nat) : Int))).drew := (hbw.setCell hg _).drew
        have ho2 := hst.1.drew
        have hbn : ((tx : Int) != 0) = (tx != 0) := by rw [Bool.eq_iff_iff]; simp
        have HBn := Lib.hid hbn
        clear hbn hst hbw
        rcases ch with _ | _
        · go_wp2_with fail
          go_still_tail 11, (by kernel_rfl)
          clear s1 s3
          go_wp2_with fail
          rw [HBx.out]
          exact ⟨⟨j + 1, by omega, by omega, by go_num, congrArg Value.bool (by rw [HAj.out, HBn.out, Bool.false_or]), ho2, hw2⟩, by simp [intOf]; omega⟩
        · go_wp2_with fail
          go_still_tail 11, (by kernel_rfl)
          clear s1 s3
          go_wp2_with fail
          rw [HBx.out]
          exact ⟨⟨j + 1, by omega, by omega, by go_num, congrArg Value.bool (by rw [HAj.out, Bool.true_or]), ho2, hw2⟩, by simp [intOf]; omega⟩
      · have hbwr := hbw1.trans (hbw.mono (Nat.le_of_lt hG))
        have hcr := HC.out j hjl hj4
        have hv7 : Bs wr (.slice (some ⟨g, 0, none⟩) l.length c2) (burj l p T j) := by
          have := Bs.of_own (w := wr) (base := W1.heap.size) (v := .slice (some ⟨g, 0, none⟩) l.length c2) ho (HB8.out j)
          exact this
        have hXl := HBl.out j
        generalize burj l p T j = X at *
        have HXl := Lib.hid hXl
        clear hXl HC HBl HBg HBs HAs HB8 HWc hbl hbl1 hat ho
        have hexit : (4 : Int) ≤ j ∨ (l.length : Int) ≤ (p : Int) + j := by omega
        by_cases hj : j < 4
        all_goals
          first
            | (have hpe : (l.length : Int) ≤ (p : Int) + j := by omega
               have hje : (j : Int) < 4 := by omega)
            | have hje : (4 : Int) ≤ j := by omega
          clear hexit hgo hj
          rcases hch : anyj T j with _ | _
          · go_wp2_with fail
            refine (awake_any _).mono ?_
            rintro e w5 ⟨rfl, hb5⟩
            go_wp2
            go_ret
            exact ⟨rfl, nxt hbwr hb5⟩
          · have hne := hcr hch
            clear hcr
            have hXl := HXl.out
            have HU := Lib.hid (us_other l X hXl hne)
            have hne1 : ((crcN X : Nat) : Int) ≠ ((crcN l : Nat) : Int) := by omega
            have hne2 : ((((crcN X : Nat) : Int)) == ((crcN l : Nat) : Int)) = false := by simpa using hne1
            have hne3 : ((((crcN X : Nat) : Int)) != ((crcN l : Nat) : Int)) = true := by simpa using hne1
            have HSl : Hid ((l ++ be4 (crcN l)).length = l.length + 4) := by show _ = _; simp [be4_length]
            have hmid0 : ((l ++ be4 (crcN l)).drop l.length).take 4 = be4 (crcN l) := by rw [List.drop_left]; rfl
            have HMid := Lib.hid hmid0
            clear hXl hmid0 hne hne1 hch
            go_wp2_with fail
            refine (seal_bs _ l _ hblr (by omega)).mono ?_
            rintro e w5 ⟨v5, rfl, ho5, hv5, hb5⟩
            obtain ⟨g5, c5, rfl, hg5, hgc5⟩ := ho5.head (by intro h; have := HSl.out; rw [h] at this; simp at this)
            rw [HSl.out]
            rw [HSl.out] at hgc5 hv5
            have hmid := (Bs.parts hv5).2.2.1.mid l.length 4
            rw [HMid.out] at hmid
            have hmid2 : At w5 w5.heap.size (some ⟨g5, l.length, none⟩) (bv (be4 (crcN l))) := by simpa [Addr.add_lit] using hmid
            have hv7' := hv7.below hb5
            have hbl5 := hblr.below hb5
            have hbw5 := nxt hbwr hb5
            have hc5 : (l.length : Int) + 4 ≤ c5 := by omega
            have hc5' : (l.length : Int) ≤ c5 := by omega
            have hc5n : ¬ c5 = l.length := by omega
            have hl4 : ((l.length : Int) + 4 - l.length).toNat = 4 := by omega
            go_wp2_with fail
            go_region_held3 (fun _ => True) (trivial)
              (first
                | (refine step_app rfl (.tmp 70) (.tmp 74) rfl rfl ho6 rfl (by exact hmid2.drew.below hb6) (by simp [be4_length]) (by rw [HXl.out]; omega) hb6.size ?_
                   intro v7 w7 hown7 hb7
                   have hb67 := hb6.trans hb7
                   have hv8 : Bs w7 v7 (X ++ be4 (crcN l)) := Bs.of_own hown7 (fun b hb => (List.mem_append.1 hb).elim ((Bs.parts hv7).2.2.2 b) (be4_bytes _ (crcN_lt l) b)))
                | (go_at_call 24
                   refine (copy_bs _ X _ hv7'.drew (by rw [HXl.out]; omega)).mono ?_
                   rintro e w6 ⟨v6, rfl, ho6, _, hb6⟩)
                | (go_at_call 17
                   refine (unseal_bs _ (X ++ be4 (crcN l)) _ hv8 (by rw [List.length_append, HXl.out, be4_length]; omega)).mono ?_
                   rintro e w8 ⟨v8, rfl, _, _, hb8⟩
                   rw [HU.out]
                   dsimp only))
            all_goals
              have hb58 := nxt (of_drew (hb67.mono (Nat.le_refl _))) hb8
              have hv9 := hv7'.below hb58
              have hbl9 := hbl5.below hb58
              have hbw9 := nxt hbw5 hb58
              go_wp2_with fail
              refine (crc_bs _ X _ hv9 (by rw [HXl.out]; omega)).mono ?_
              rintro e w9 ⟨rfl, rfl⟩
              go_wp2_with fail
              refine (crc_bs _ l _ hbl9 (by omega)).mono ?_
              rintro e w9 ⟨rfl, rfl⟩
              go_wp2_with fail
              refine (awake_any _).mono ?_
              rintro e w10 ⟨rfl, hb10⟩
              go_wp2
              go_ret
              exact ⟨rfl, nxt hbw9 hb10⟩

set_option maxRecDepth 100000 in
theorem lifted (os : Os) (started : os.Started) (H : Type) (enc : TypeId × Value → H) :
    ReturnsInHanded {} Try.checked os 8 .any (Rows.bytesBurstSpec.pre6 enc Try.prog Try.f8 Rows.bytesBurstRow.domain false) (Rows.bytesBurstSpec.post enc Try.prog Try.f8 false true false false) := by
  refine returnsInHanded_of_change (C := Try.checked) knob_own started (by kernel_rfl) Try.func8
    (ChangeSpec.witness6 (enc := enc) (C := Try.checked) false ⟨#[], #[.slice none 0 0, .int .i64 0, .agg #[.int .u8 0, .int .u8 0, .int .u8 0, .int .u8 0]], []⟩ 8 (by kernel_rfl) (by kernel_rfl) (by kernel_rfl) (by kernel_rfl)) ?_
  intro W base args ds gs before hval0 hW hcnd _
  have hval : ∀ (j : Nat) t v, Try.f8.params[j]? = some t → args[j]? = some v → Value.okWide Try.prog W .any base t v := hval0
  have hW' := hW
  obtain ⟨p, q, hA0, hV, rfl, hfz, hnd⟩ := hW
  have hA : DataW.TrodAll enc Try.prog W 0 (fun _ => true) true Try.f8.params.toList args.toList ds p := hA0
  rw [Try.params8] at hA hval
  obtain ⟨v0, vs0, d0, ds0, p0, q0, hargs, rfl, rfl, h0, r0⟩ := trodAll_cons hA
  obtain ⟨v1, vs1, d1, ds1, p1, q1, rfl, rfl, rfl, h1, r1⟩ := trodAll_cons r0
  obtain ⟨v2, vs2, d2, ds2, p2, q2, rfl, rfl, rfl, h2, r2⟩ := trodAll_cons r1
  obtain ⟨rfl, rfl, rfl⟩ := trodAll_nil r2
  obtain rfl : args = #[v0, v1, v2] := by cases args; simp_all
  obtain ⟨rfl, rfl⟩ := trodVars_none hV
  obtain ⟨a0, n0, c0, rfl⟩ := okWide_slice Try.underlying23 (hval 0 23 v0 rfl rfl)
  have k0 := h0
  have lt0 : ∀ x ∈ p0, x.block < W.heap.size := by obtain ⟨m, hm⟩ := k0; exact DataW.trod_lt m _ _ _ hm
  have z0 : ∃ zs, Ints .u8 W a0 n0 c0 zs := by
    obtain ⟨fuel, hf⟩ := h0
    rcases open_ints Try.underlying23 Try.underlying5 (by kernel_rfl) hf with ⟨hcs, _⟩ | ⟨x, l, c, zs, hcs, _, hl, hm, hz, _, hcell, hwz⟩
    · simp [Value.cells] at hcs
      obtain ⟨rfl, rfl, rfl⟩ := hcs
      exact ⟨[], ints_nil _ _⟩
    · simp [Value.cells] at hcs
      obtain ⟨rfl, rfl, rfl⟩ := hcs
      exact ⟨_, ints_some .u8 W x _ _ zs hl hm (by simpa using hz) hcell hwz⟩
  have w0 := z0.elim fun _ h => h.bytes
  have lt1 : ∀ x ∈ p1, x.block < W.heap.size := by obtain ⟨m, hm⟩ := h1; exact DataW.trod_lt m _ _ _ hm
  have k1 := h1
  obtain ⟨a1, rfl, _, _, w1⟩ := open_int Try.underlying3 (hval 1 3 v1 rfl rfl) h1
  have k2 := h2
  have lt2 : ∀ x ∈ p2, x.block < W.heap.size := by obtain ⟨m, hm⟩ := k2; exact DataW.trod_lt m _ _ _ hm
  obtain ⟨x2, y2, z2, u2, rfl, w2⟩ := arr4_open (hval 2 50 v2 rfl rfl) h2
  clear hA0 hval0
  refine (walk W a0 n0 c0 a1 x2 y2 z2 u2 w0 w1 w2).mono fun e W' ⟨he, bel⟩ => ?_
  subst he
  exact ⟨_, rfl, _, _, _, [], _, [], hW', trodAll_mk1 (shut_bool Try.underlying4 _), (trodAll_cons_mk (Below.trod laid_out (by kernel_rfl) (of_decide_eq_true (by kernel_rfl)) k0 bel lt0) (trodAll_cons_mk (Below.trod laid_out (by kernel_rfl) (of_decide_eq_true (by kernel_rfl)) k1 bel lt1) (trodAll_cons_mk (Below.trod laid_out (by kernel_rfl) (of_decide_eq_true (by kernel_rfl)) k2 bel lt2) (trodAll_mk0)))), rfl, bel.frame _, fun h => by cases h⟩

theorem over : Rows.bytesBurstRow.holds Try.pinned (OpenSpec.ofChange Rows.bytesBurstSpec) :=
  OpenClaim.holds_of_wide 8 Try.f8 rfl rfl rfl rfl rfl rfl rfl ⟨rfl, rfl, rfl, rfl, rfl⟩ rfl rfl rfl rfl rfl (by kernel_rfl) Try.func8 (by kernel_rfl)
    (of_decide_eq_true (by kernel_rfl)) (by unfold Func.isWrapper; first | (rw [if_pos (by decide +kernel)]; kernel_rfl) | (rw [if_neg (by decide +kernel)]; exact ⟨rfl, rfl⟩))
    (fun os started H enc _ => lifted os started H enc)

theorem proved : Rows.BytesBurstSaid := over
end Go.Proofs.Ytafjkbmkoghmkaa.bytesBurst
