/- droverlaw03.turned: the walk; an array of four bytes among the arguments. -/
import Derived.Test.YtdgidjgdknkdlaaGe
import Derived.Test.YtdgidjgdknkdlaaKp
import Derived.Test.YtdgidjgdknkdlaaRow
import Derived.Deep.RegionHeld3
import Derived.StillTailTactics
import Derived.Lib.SmallJoins
namespace Go.Proofs.Ytdgidjgdknkdlaa
open Go.RowKit Go.ChangeShapes Go.WideShapes

set_option maxRecDepth 100000 in
theorem arr4_open {H : Type} {enc : TypeId × Value → H} {W : World} {base : Nat} {v : Value} {d : DataW H} {p : List MemPlace} (hv : Value.okWide Try.prog W .any base 57 v)
    (h : DataW.Trod enc Try.prog W 0 (fun _ => true) true 57 v d p) :
    ∃ x y z u : Int, v = .agg #[.int .u8 x, .int .u8 y, .int .u8 z, .int .u8 u] ∧ (Lit.int .u8 x).wf = true ∧ (Lit.int .u8 y).wf = true ∧ (Lit.int .u8 z).wf = true ∧ (Lit.int .u8 u).wf = true := by
  have hC : Try.prog.cellsOf 57 = 4 := by kernel_rfl
  have hE : Try.prog.cellsOf 5 = 1 := by kernel_rfl
  simp only [Value.okWide, Try.underlying57] at hv
  obtain ⟨cs, rfl, hs, _⟩ := hv
  obtain ⟨c0, c1, c2, c3, rfl⟩ := Joins.array4 (hs.trans hC)
  obtain ⟨fuel, hf⟩ := h
  obtain ⟨xs, m, _, _, _, hx, hi⟩ := DataW.trod_array Try.underlying57 hf
  have hcs : (Value.agg #[c0, c1, c2, c3]).cells.toList = [c0, c1, c2, c3] := rfl
  rw [hcs] at hi
  have h0 := hi 0 (by omega)
  have h1 := hi 1 (by omega)
  have h2 := hi 2 (by omega)
  have h3 := hi 3 (by omega)
  rw [hE] at h0 h1 h2 h3
  rw [List.getElem?_eq_getElem (by omega)] at h0 h1 h2 h3
  obtain ⟨x, e0, _, k0⟩ := DataW.trod_int Try.underlying5 h0
  obtain ⟨y, e1, _, k1⟩ := DataW.trod_int Try.underlying5 h1
  obtain ⟨z, e2, _, k2⟩ := DataW.trod_int Try.underlying5 h2
  obtain ⟨u, e3, _, k3⟩ := DataW.trod_int Try.underlying5 h3
  simp at e0 e1 e2 e3
  subst e0
  subst e1
  subst e2
  subst e3
  exact ⟨x, y, z, u, rfl, k0, k1, k2, k3⟩
/-- The list l behind j rounds: from place p on each byte is held against t's. -/
def burj (l : List Nat) (p : Nat) (t : List Nat) : Nat → List Nat
  | 0 => l
  | j + 1 => (burj l p t j).set (p + j) (l.getD (p + j) 0 ^^^ t.getD j 0)
theorem burj_len (l : List Nat) (p : Nat) (t : List Nat) (j : Nat) : (burj l p t j).length = l.length := by
  induction j with
  | zero => rfl
  | succ j ih => simp [burj, ih]
theorem burj_get (l : List Nat) (p : Nat) (t : List Nat) (j i : Nat) (h : p + j ≤ i) : (burj l p t j).getD i 0 = l.getD i 0 := by
  induction j with
  | zero => rfl
  | succ j ih =>
    unfold burj
    rw [← ih (by omega)]
    simp [List.getD, show ¬ p + j = i by omega]
theorem burj_bytes (l : List Nat) (p : Nat) (t : List Nat) (h8 : ∀ x ∈ l, x < 256) (ht : ∀ x ∈ t, x < 256) (j : Nat) : ∀ x ∈ burj l p t j, x < 256 := by
  induction j with
  | zero => exact h8
  | succ j ih =>
    intro x hx
    rcases List.mem_or_eq_of_mem_set hx with h | h
    · exact ih x h
    · subst h
      have get8 : ∀ (m : List Nat) (i : Nat), (∀ x ∈ m, x < 256) → m.getD i 0 < 256 := by
        intro m i hm
        by_cases hi : i < m.length
        · have := hm (m[i]) (List.getElem_mem hi)
          simpa [hi] using this
        · simp [List.getD, List.getElem?_eq_none (show m.length ≤ i by omega)]
      exact Nat.xor_lt_two_pow (n := 8) (get8 l _ h8) (get8 t _ ht)
theorem lxor_set_right : ∀ (a b : List Nat) (i y : Nat), a.length = b.length → lxor a (b.set i y) = (lxor a b).set i (a.getD i 0 ^^^ y)
  | [], [], i, y, _ => by simp [lxor]
  | [], _ :: _, _, _, h => by simp at h
  | _ :: _, [], _, _, h => by simp at h
  | x :: a, z :: b, 0, y, _ => by
    simp [lxor]
  | x :: a, z :: b, i + 1, y, h => by
    have := lxor_set_right a b i y (by simpa using h)
    simp only [List.set_cons_succ, lxor, this, List.getD_cons_succ]
theorem burj_lxor (l : List Nat) (p : Nat) (t : List Nat) (j : Nat) (hp : p + j ≤ l.length) (hj : j ≤ t.length) :
    lxor l (burj l p t j) = List.replicate p 0 ++ t.take j ++ List.replicate (l.length - p - j) 0 := by
  induction j with
  | zero =>
    show lxor l l = _
    rw [lxor_self]
    simp
    omega
  | succ j ih =>
    unfold burj
    rw [lxor_set_right _ _ _ _ (burj_len l p t j).symm, ih (by omega) (by omega), ← Nat.xor_assoc, Nat.xor_self, Nat.zero_xor]
    rw [List.append_assoc, List.set_append_right _ _ (by simp), List.length_replicate, Nat.add_sub_cancel_left, List.set_append_right _ _ (by simp; omega)]
    have e : j - (t.take j).length = 0 := by simp; omega
    rw [e, show l.length - p - j = (l.length - p - (j + 1)) + 1 by omega, List.replicate_succ, List.set_cons_zero, List.take_succ_eq_append_getElem (l := t) (i := j) (by omega)]
    have e2 : t.getD j 0 = t[j] := by simp [show j < t.length by omega]
    rw [e2, List.append_assoc, List.append_assoc]
    rfl
/-- Is one of the first j bytes not 0? -/
def anyj (t : List Nat) (j : Nat) : Bool := (t.take j).any fun x => x != 0
theorem anyj_succ (t : List Nat) (j : Nat) (h : j < t.length) : anyj t (j + 1) = (anyj t j || t.getD j 0 != 0) := by
  unfold anyj
  rw [List.take_succ_eq_append_getElem h, List.any_append]
  have e2 : t.getD j 0 = t[j] := by simp [h]
  rw [e2]
  simp
theorem burst_crc (l : List Nat) (p : Nat) (t : List Nat) (j : Nat) (hp : p + j ≤ l.length) (hj : j ≤ t.length) (h4 : j ≤ 4) (h8 : ∀ x ∈ l, x < 256) (ht : ∀ x ∈ t, x < 256) (hc : anyj t j = true) : crcN l ≠ crcN (burj l p t j) := by
  refine crcN_burst l (burj l p t j) p (l.length - p - j) (t.take j) h8 (burj_bytes l p t h8 ht j) (burj_len l p t j).symm (by simp; omega) (fun x hx => ht x (List.mem_of_mem_take hx)) ?_ (burj_lxor l p t j hp hj)
  unfold anyj at hc
  obtain ⟨x, hx, hx0⟩ := List.any_eq_true.1 hc
  exact ⟨x, hx, by simpa using hx0⟩
theorem us_other (l X : List Nat) (hne : crcN l ≠ crcN X) : us (X ++ be4 (crcN l)) = ([], 12) := by
  have hs : crcN l < 4294967296 := by unfold crcN; omega
  unfold us
  have e : (X ++ be4 (crcN l)).length - 4 = X.length := by simp [be4_length]
  rw [if_neg (by simp [be4_length]), e, List.drop_left, List.take_left, beN_be4 _ hs, if_neg hne]
theorem burj_append (l s : List Nat) (p : Nat) (t : List Nat) (j : Nat) (h : p + j ≤ l.length) : burj (l ++ s) p t j = burj l p t j ++ s := by
  induction j with
  | zero => rfl
  | succ j ih =>
    unfold burj
    rw [ih (by omega), List.set_append_left _ _ (by rw [burj_len]; omega)]
    congr 2
    simp [List.getElem?_append_left (show p + j < l.length by omega)]
theorem burj_zero (l : List Nat) (p : Nat) (t : List Nat) (j : Nat) (hj : j ≤ t.length) (h : anyj t j = false) : burj l p t j = l := by
  induction j with
  | zero => rfl
  | succ j ih =>
    rw [anyj_succ t j (by omega), Bool.or_eq_false_iff] at h
    have h0 : t.getD j 0 = 0 := by simpa using h.2
    unfold burj
    rw [ih (by omega) h.1, h0, Nat.xor_zero]
    refine List.ext_getElem (by simp) (fun i h1 h2 => ?_)
    rw [List.getElem_set]
    split
    · rename_i e
      subst e
      simp [h2]
    · rfl
/-- Sealed bytes of which some ahead of the sum are others. -/
theorem turned_us (l Y : List Nat) (hl : Y.length = l.length) (h : crcN l ≠ crcN Y) : us (Y ++ be4 (crcN l)) = ([], 12) ∧ (Y ++ be4 (crcN l)).length = l.length + 4 :=
  ⟨us_other l Y h, by rw [List.length_append, be4_length, hl]⟩
set_option maxRecDepth 100000 in
set_option maxHeartbeats 1600000 in
theorem turned_any (v : Value) (l : List Nat) (at_ : Int) (x y z u : Nat) (w : World) (hb : Bs w v (l ++ be4 (crcN l))) (h1 : 1 ≤ l.length) (hn : l.length ≤ 2000000) (hl8 : ∀ b ∈ l, b < 256) (ht8 : ∀ b ∈ [x, y, z, u], b < 256) :
    Calls Try.prog 31 #[v, .int .i64 at_, .agg #[.int .u8 (x : Int), .int .u8 (y : Int), .int .u8 (z : Int), .int .u8 (u : Int)]] w fun e w' => ∃ r X, e = .returned r ∧ Own w' w.heap.size r X ∧ Bs w' r X ∧ X.length = l.length + 4 ∧ us X = ([], 12) ∧ Below w.heap.size w w' := by
  have hbw := (Below.refl w.heap.size w).alloc (Nat.le_refl _) (.cells #[.int .u8 (x : Int), .int .u8 (y : Int), .int .u8 (z : Int), .int .u8 (u : Int)] 57)
  have hWc : ∀ j, j < 4 → (w.alloc (.cells #[.int .u8 (x : Int), .int .u8 (y : Int), .int .u8 (z : Int), .int .u8 (u : Int)] 57)).cell? ⟨w.heap.size, j, none⟩ = some (.int .u8 (([x, y, z, u].getD j 0 : Nat) : Int)) := by
    intro j hj
    rw [World.cell?_alloc_at _ _ _ _ rfl]
    rcases j with _ | _ | _ | _ | j
    · rfl
    · rfl
    · rfl
    · rfl
    · omega
  have hb1 := hb.below hbw
  have hs1 : w.heap.size < (w.alloc (.cells #[.int .u8 (x : Int), .int .u8 (y : Int), .int .u8 (z : Int), .int .u8 (u : Int)] 57)).heap.size := by simp
  have hL4 : (l ++ be4 (crcN l)).length = l.length + 4 := by rw [List.length_append, be4_length]
  have hL8 : ∀ b ∈ l ++ be4 (crcN l), b < 256 := hb.2
  have hcr : ∀ p j, p + j ≤ l.length → j ≤ 4 → anyj [x, y, z, u] j = true → crcN l ≠ crcN (burj l p [x, y, z, u] j) := fun p j h1 h2 h3 => burst_crc l p [x, y, z, u] j h1 h2 h2 hl8 ht8 h3
  have hcr1 : ∀ p, p + 1 ≤ l.length → crcN l ≠ crcN (burj l p [1] 1) := fun p h1 => burst_crc l p [1] 1 h1 (by simp) (by omega) hl8 (by simp) rfl
  have HC := Lib.hid hcr
  have HC1 := Lib.hid hcr1
  have HB8 := Lib.hid (fun p j => burj_bytes (l ++ be4 (crcN l)) p [x, y, z, u] hL8 ht8 j)
  have HBl := Lib.hid (fun p j => burj_len (l ++ be4 (crcN l)) p [x, y, z, u] j)
  have HBa := Lib.hid (fun p j h => burj_append l (be4 (crcN l)) p [x, y, z, u] j h)
  have HBg := Lib.hid (fun p j => burj_get (l ++ be4 (crcN l)) p [x, y, z, u] j)
  have HBs : Hid (∀ p j, burj (l ++ be4 (crcN l)) p [x, y, z, u] (j + 1) = (burj (l ++ be4 (crcN l)) p [x, y, z, u] j).set (p + j) ((l ++ be4 (crcN l)).getD (p + j) 0 ^^^ [x, y, z, u].getD j 0)) := fun p j => rfl
  have HBz := Lib.hid (fun p j h k => burj_zero l p [x, y, z, u] j h k)
  have HAs := Lib.hid (fun j hj => anyj_succ [x, y, z, u] j hj)
  have HA0 : Hid (anyj [x, y, z, u] 0 = false) := rfl
  have HB0 : Hid (∀ p, burj (l ++ be4 (crcN l)) p [x, y, z, u] 0 = l ++ be4 (crcN l)) := fun _ => rfl
  have HT8 := Lib.hid ht8
  have HTl : Hid ([x, y, z, u].length = 4) := rfl
  have HUS := Lib.hid (turned_us l)
  have HWc := Lib.hid hWc
  have HL8 := Lib.hid hl8
  obtain ⟨⟨A, c, rfl, hc, -⟩, -⟩ := id hb
  go_enter Try.func31, Try.ntmps31
  clear hWc hcr hcr1 hL8
  generalize hT : ([x, y, z, u] : List Nat) = T at *
  have hHL := Lib.hid hL4
  have hLg : Hid (∀ i, i < l.length → (l ++ be4 (crcN l)).getD i 0 = l.getD i 0) := fun i hi => by simp [List.getElem?_append_left hi]
  have sn : IntKind.i64.wrap (((l ++ be4 (crcN l)).length : Int) - 4) = (l.length : Int) := by rw [hL4, IntKind.wrap_i64]; omega
  have hLb : (l ++ be4 (crcN l)).length ≤ 3000000 := by omega
  generalize hLL : l ++ be4 (crcN l) = L at *
  have HLL := Lib.hid hLL
  clear hLL hT hL4
  have hp0 := Int.emod_nonneg at_ (show (l.length : Int) ≠ 0 by omega)
  have hp1 := Int.emod_lt_of_pos at_ (show (0 : Int) < (l.length : Int) by omega)
  obtain ⟨p, hp⟩ : ∃ p : Nat, at_ % (l.length : Int) = (p : Int) := ⟨(at_ % (l.length : Int)).toNat, by omega⟩
  have hpl : p < l.length := by omega
  have HP := Lib.hid hp
  clear hp hp0 hp1
  go_wp2_with fail
  generalize w.alloc (.cells #[.int .u8 (x : Int), .int .u8 (y : Int), .int .u8 (z : Int), .int .u8 (u : Int)] 57) = W1 at *
  refine (copy_bs _ L _ hb1 (by omega)).mono ?_
  rintro e w2 ⟨v2, rfl, ho2, -, hb2⟩
  obtain ⟨g, c2, rfl, hg, hgc⟩ := ho2.head (by intro h; have := hHL.out; rw [h] at this; simp at this)
  go_wp2_with fail
  refine (pick_any at_ (l.length : Int) _ (by omega) (by omega)).mono ?_
  rintro e wx ⟨rfl, rfl⟩
  rw [HP.out]
  rw [← HB0.out p] at ho2
  have hgL : (L.length : Int) ≤ (c2 : Int) := by omega
  clear hb1 hb
  go_wp2_with fail
  go_loopw [9, 10] (fun ch i wr => ∃ j : Nat, j ≤ 4 ∧ p + j ≤ l.length ∧ i = .int .i64 (j : Int) ∧ ch = .bool (anyj T j) ∧ Own wr W1.heap.size (.slice (some ⟨g, 0, none⟩) L.length c2) (burj L p T j) ∧ Below W1.heap.size W1 wr) (fun _ i _ => 4 - (intOf i).toNat)
  case atStart => exact ⟨0, by omega, by omega, rfl, by rw [HA0.out], ho2, hb2⟩
  case round =>
    obtain ⟨j, hj4, hjl, rfl, rfl, ho, hbw2⟩ := hrel
    by_cases hgo : j < 4 ∧ p + j < l.length
    · obtain ⟨hj, hpj⟩ := hgo
      have hul := HBl.out p j
      have hLl := hHL.out
      have ho' : Own wr W1.heap.size (.slice (some ⟨g, 0, none⟩) (burj L p T j).length c2) (burj L p T j) := by rw [hul]; exact ho
      have hfro := Own.frozenAt ho' (p + j) rfl
      have hcx := Own.cellAt ho' (p + j) (by omega)
      rw [HBg.out p j (p + j) (Nat.le_refl _), hLg.out _ hpj] at hcx
      have hst := Own.stored ho' (p + j) (L.getD (p + j) 0 ^^^ T.getD j 0)
      rw [← HBs.out, hul, hLg.out _ hpj] at hst
      have hct : wr.cell? ⟨w.heap.size, j, none⟩ = some (.int .u8 ((T.getD j 0 : Nat) : Int)) := (hbw2.cell (p := ⟨w.heap.size, j, none⟩) hs1).trans (HWc.out j hj)
      have hlx : l.getD (p + j) 0 < 256 := by
        have := HL8.out (l[p + j]) (List.getElem_mem hpj)
        simpa [hpj] using this
      have htx : T.getD j 0 < 256 := by
        have hi : j < T.length := by have := HTl.out; omega
        have := HT8.out (T[j]) (List.getElem_mem hi)
        simpa [hi] using this
      have HAj := Lib.hid (HAs.out j (by have := HTl.out; omega))
      have q5 : (p : Int) + j < L.length := by omega
      clear hul ho ho' hLl
      generalize l.getD (p + j) 0 = lx at *
      generalize T.getD j 0 = tx at *
      generalize anyj T j = ch at *
      have q1 : (0 : Int) ≤ p := by omega
      have q2 : (0 : Int) ≤ j := by omega
      have q3 : (j : Int) < 4 := by omega
      have q4 : (p : Int) + j < l.length := by omega
      have s2 : (0 : Int) ≤ (p : Int) + j := by omega
      have s3 : ((p : Int) + j).toNat = p + j := by omega
      have s1 : IntKind.i64.wrap ((p : Int) + j) = (p : Int) + j := IntWalk.i64_in _ (by omega)
      have hbx : bits BinOp.xor IntKind.u8 (lx : Int) (tx : Int) = ((lx ^^^ tx : Nat) : Int) := u8_xor_nat lx tx hlx htx
      have HBx := Lib.hid hbx
      clear hbx
      have hw2 : Below W1.heap.size W1 (wr.setCell ⟨g, p + j, none⟩ (.int .u8 ((lx ^^^ tx : Nat) : Int))).drew := (hbw2.setCell hg _).drew
      have ho3 := hst.1.drew
      have hbn : ((tx : Int) != 0) = (tx != 0) := by rw [Bool.eq_iff_iff]; simp
      have HBn := Lib.hid hbn
      clear hbn hst hbw2
      rcases ch with _ | _
      · go_wp2_with fail
        go_still_tail 11, (by kernel_rfl)
        clear s1 s3
        go_wp2_with fail
        rw [HBx.out]
        exact ⟨⟨j + 1, by omega, by omega, by go_num, congrArg Value.bool (by rw [HAj.out, HBn.out, Bool.false_or]), ho3, hw2⟩, by simp [intOf]; omega⟩
      · go_wp2_with fail
        go_still_tail 11, (by kernel_rfl)
        clear s1 s3
        go_wp2_with fail
        rw [HBx.out]
        exact ⟨⟨j + 1, by omega, by omega, by go_num, congrArg Value.bool (by rw [HAj.out, Bool.true_or]), ho3, hw2⟩, by simp [intOf]; omega⟩
    · have hexit : (4 : Int) ≤ j ∨ (l.length : Int) ≤ (p : Int) + j := by omega
      have hsw := hbw.size
      have hbr := hbw.trans (hbw2.mono hsw)
      have hTl := HTl.out
      have hLl := hHL.out
      have ho' : Own wr W1.heap.size (.slice (some ⟨g, 0, none⟩) (burj L p T j).length c2) (burj L p T j) := by rw [HBl.out p j]; exact ho
      have HA := Lib.hid (HBa.out p j hjl)
      have HCj := Lib.hid (HC.out p j hjl hj4)
      have HZj := Lib.hid (HBz.out p j (by omega))
      have HC1j := Lib.hid (HC1.out p (by omega))
      have h8j := HB8.out p j
      have hlj := HBl.out p j
      have hl64' : (p : Int) < (L.length : Int) := by omega
      have s0 : (0 : Int) ≤ (p : Int) := by omega
      have hlp8 : l.getD p 0 < 256 := by
        have := HL8.out (l[p]) (List.getElem_mem hpl)
        simpa [hpl] using this
      have hb1p : Hid (burj l p [1] 1 = l.set p (l.getD p 0 ^^^ 1)) := rfl
      have t9 : decide ((0 : Int) < (l.length : Int)) = true := decide_eq_true (by omega)
      have t9' : decide (0 < l.length) = true := decide_eq_true (by omega)
      have HLP := Lib.hid (hLg.out p hpl)
      clear hLl hTl
      by_cases hj : j < 4
      all_goals
        first
          | (have hpe : (l.length : Int) ≤ (p : Int) + j := by omega
             have hje : (j : Int) < 4 := by omega)
          | have hje : (4 : Int) ≤ j := by omega
        clear hexit hgo hj
        rcases hch : anyj T j with _ | _
        · have HX : Hid (burj L p T j = L) := by
            show _ = _
            rw [HA.out, HZj.out hch, HLL.out]
          rw [HX.out] at ho'
          have hfro := Own.frozenAt ho' p rfl
          have hcx := Own.cellAt ho' p (by omega)
          rw [HLP.out] at hcx
          have hst := (Own.stored ho' p (l.getD p 0 ^^^ 1)).1
          have hbx : bits BinOp.xor IntKind.u8 (l.getD p 0 : Int) 1 = ((l.getD p 0 ^^^ 1 : Nat) : Int) := u8_xor_nat (l.getD p 0) 1 hlp8 (by omega)
          have HBx := Lib.hid hbx
          have HN := HC1j.out
          rw [hb1p.out] at HN
          have HU := Lib.hid (HUS.out (l.set p (l.getD p 0 ^^^ 1)) (by simp) HN)
          have hset : Hid (L.set p (l.getD p 0 ^^^ 1) = l.set p (l.getD p 0 ^^^ 1) ++ be4 (crcN l)) := by
            show _ = _
            rw [← HLL.out, List.set_append_left _ _ hpl]
          have hwx := hbr.trans ((Below.refl w.heap.size wr).setCell (p := ⟨g, p, none⟩) (show w.heap.size ≤ g by omega) (.int .u8 ((l.getD p 0 ^^^ 1 : Nat) : Int)))
          have h8s : ∀ b ∈ L.set p (l.getD p 0 ^^^ 1), b < 256 := by
            intro b hb
            rcases List.mem_or_eq_of_mem_set hb with h | h
            · rw [← HX.out] at h
              exact h8j b h
            · rw [h]
              exact Nat.xor_lt_two_pow (n := 8) hlp8 (by omega)
          have h8S := Lib.hid h8s
          clear hbx hch ho ho' h8s HN hlj h8j
          generalize l.getD p 0 = lp at *
          go_wp2_with fail
          rw [HBx.out]
          go_ret
          have hU2 : us (L.set p (lp ^^^ 1)) = ([], 12) := by
            rw [hset.out]
            exact HU.out.1
          have hU3 : (L.set p (lp ^^^ 1)).length = l.length + 4 := by rw [List.length_set, hHL.out]
          first
            | exact ⟨_, L.set p (lp ^^^ 1), rfl, hst.mono (by omega), Bs.of_own hst h8S.out, hU3, hU2, hwx⟩
            | exact ⟨_, rfl, L.set p (lp ^^^ 1), hst.mono (by omega), Bs.of_own hst h8S.out, hU3, hU2, hwx⟩
        · have HU := Lib.hid (HUS.out (burj l p T j) (by have := congrArg List.length HA.out; rw [List.length_append, be4_length, hlj] at this; have := hHL.out; omega) (HCj.out hch))
          have HOO := Lib.hid ho
          have H8J := Lib.hid h8j
          have HLJ := Lib.hid hlj
          clear ho ho' hch h8j hlj
          go_wp2_with fail
          go_ret
          have hU2 : us (burj L p T j) = ([], 12) := by
            rw [HA.out]
            exact HU.out.1
          first
            | exact ⟨_, burj L p T j, rfl, HOO.out.mono (by omega), Bs.of_own HOO.out H8J.out, HLJ.out.trans hHL.out, hU2, hbr⟩
            | exact ⟨_, rfl, burj L p T j, HOO.out.mono (by omega), Bs.of_own HOO.out H8J.out, HLJ.out.trans hHL.out, hU2, hbr⟩
set_option maxRecDepth 100000 in
theorem arr4_eq (x y z u : Nat) : ∃ b, ∀ w : World, (binOp .eql 57 (.agg #[.int .u8 (x : Int), .int .u8 (y : Int), .int .u8 (z : Int), .int .u8 (u : Int)]) (.agg #[.int .u8 0, .int .u8 0, .int .u8 0, .int .u8 0])).run Try.prog w = .ok (.bool b) w := by
  cases x with
  | succ x => exact ⟨false, fun w => by kernel_rfl⟩
  | zero =>
    cases y with
    | succ y => exact ⟨false, fun w => by kernel_rfl⟩
    | zero =>
      cases z with
      | succ z => exact ⟨false, fun w => by kernel_rfl⟩
      | zero =>
        cases u with
        | succ u => exact ⟨false, fun w => by kernel_rfl⟩
        | zero => exact ⟨true, fun w => by kernel_rfl⟩
end Go.Proofs.Ytdgidjgdknkdlaa
