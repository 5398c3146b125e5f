/- drover/frame.putList, its numbers: the walks. -/
import Derived.Test.YtjcefnlidophoaaMs
namespace Go.Proofs.Ytjcefnlidophoaa
open Go.RowKit

section
variable {α : Type}
/-- One behind the other, as long as there is room. -/
def pgo (f : α → Option (List Nat)) : List Nat → List α → Option (List Nat)
  | b, [] => if b.length ≤ 1048572 then some b else none
  | b, x :: xs => match f x with
    | none => none
    | some e => if 1048572 < b.length + e.length then none else pgo f (b ++ e) xs
def plst (f : α → Option (List Nat)) (most : Nat) (b : List Nat) (xs : List α) : Option (List Nat) := if most < xs.length then none else pgo f (b ++ varint xs.length) xs
theorem pgo_end (f : α → Option (List Nat)) (b : List Nat) (xs : List α) (j : Nat) (h : xs.length ≤ j) : pgo f b (xs.drop j) = if b.length ≤ 1048572 then some b else none := by
  rw [List.drop_eq_nil_of_le h]
  rfl
theorem pgo_go (f : α → Option (List Nat)) (b : List Nat) (xs : List α) (j : Nat) (h : j < xs.length) : pgo f b (xs.drop j) = match f xs[j] with
    | none => none
    | some e => if 1048572 < b.length + e.length then none else pgo f (b ++ e) (xs.drop (j + 1)) := by
  rw [List.drop_eq_getElem_cons h]
  rfl
/-- All of them are right, and it is not too long: else nothing. -/
theorem pgo_all (f : α → Option (List Nat)) (g : α → List Nat) (hf : ∀ x e, f x = some e → e = g x) : ∀ (xs : List α) (b : List Nat), pgo f b xs = if (xs.all fun x => (f x).isSome) && decide ((b ++ xs.flatMap g).length ≤ 1048572) then some (b ++ xs.flatMap g) else none
  | [], b => by simp [pgo]
  | x :: xs, b => by
    rw [pgo]
    cases hx : f x with
    | none => simp [hx]
    | some e =>
      have := hf x e hx
      subst this
      dsimp only
      by_cases hl : 1048572 < b.length + (g x).length
      · rw [if_pos hl, if_neg]
        simp
        intros
        omega
      · rw [if_neg hl, pgo_all f g hf xs]
        simp [hx]
theorem plst_all (f : α → Option (List Nat)) (g : α → List Nat) (hf : ∀ x e, f x = some e → e = g x) (most : Nat) (xs : List α) (b : List Nat) :
    plst f most b xs = if decide (xs.length ≤ most) && (xs.all fun x => (f x).isSome) && decide ((b ++ varint xs.length ++ xs.flatMap g).length ≤ 1048572) then some (b ++ varint xs.length ++ xs.flatMap g) else none := by
  unfold plst
  by_cases h : most < xs.length
  · rw [if_pos h, if_neg]
    simp
    omega
  · rw [if_neg h, pgo_all f g hf]
    have : decide (xs.length ≤ most) = true := decide_eq_true (by omega)
    rw [this, Bool.true_and]
end
def OutOne (r : Option (List Nat)) (w : World) (e : Ending) (w' : World) : Prop := Below w.heap.size w w' ∧ match r with
  | none => ∃ u, e = .returned (.tuple #[u, .bool false])
  | some l => ∃ u, e = .returned (.tuple #[u, .bool true]) ∧ Bs w' u l
def OutPl (r : Option (List Nat)) (base : Nat) (w : World) (e : Ending) (w' : World) : Prop := Below base w w' ∧ match r with
  | none => ∃ u, e = .returned (.tuple #[u, .bool false])
  | some l => ∃ u, e = .returned (.tuple #[u, .bool true]) ∧ Own w' base u l ∧ ∀ x ∈ l, x < 256
def oN (n : Int) : Option (List Nat) := some (gN n)
set_option maxRecDepth 100000 in
set_option maxHeartbeats 800000 in
theorem put1n_any (n : Int) (w : World) (h0 : -9223372036854775808 ≤ n) (h1 : n ≤ 9223372036854775807) : Calls Try.prog 146 #[.int .i64 n] w (OutOne (oN n) w) := by
  go_enter Try.func146, Try.ntmps146
  go_wp2_with fail
  refine (int_bs (.slice none 0 0) [] n _ (Bs.nil _) (by simp) h0 h1).mono ?_
  rintro e w1 ⟨v1, rfl, -, hv1, hb1⟩
  go_wp2_with fail
  refine bodyPost_ret (v := .tuple #[v1, .bool true]) (by simp [results, Try.results146, go_sem]) rfl ?_
  exact ⟨hb1, v1, rfl, by simpa [gN] using hv1⟩

set_option maxRecDepth 100000 in
set_option maxHeartbeats 1600000 in
theorem putnums_any (base : Nat) (v : Value) (l : List Nat) (A : Option Addr) (c : Nat) (ns : List Int) (w : World) (hown : Own w base v l) (h8 : ∀ x ∈ l, x < 256) (hl : l.length ≤ 1048572) (hbase : base ≤ w.heap.size)
    (hat : At w base A (zv ns)) (hns : ∀ n ∈ ns, -9223372036854775808 ≤ n ∧ n ≤ 9223372036854775807) :
    Calls Try.prog 145 #[v, .slice A ns.length c, .int .i64 64, .func (.func 146) #[] #[]] w (OutPl (plst oN 64 l ns) base w) := by
  have HNS := Lib.hid hns
  clear hns
  by_cases hbig : 64 < ns.length
  · have g1 : decide ((64 : Int) < (ns.length : Int)) = true := by simp; omega
    have g1' : decide (64 < ns.length) = true := by simp; omega
    have HP : Hid (plst oN 64 l ns = none) := by
      show _ = _
      unfold plst
      rw [if_pos hbig]
    go_enter Try.func145, Try.ntmps145
    go_wp2_with fail
    refine bodyPost_ret (v := .tuple #[.slice none 0 0, .bool false]) (by simp [results, Try.results145, go_sem]) rfl ?_
    refine ⟨Below.refl _ _, ?_⟩
    rw [HP.out]
    exact ⟨_, rfl⟩
  have g1 : decide ((64 : Int) < (ns.length : Int)) = false := by rw [decide_eq_false_iff_not]; omega
  have g1' : decide (64 < ns.length) = false := by rw [decide_eq_false_iff_not]; omega
  have s1 : IntKind.u64.wrap (ns.length : Int) = (ns.length : Int) := by rw [show IntKind.u64.wrap (ns.length : Int) = (ns.length : Int) % 18446744073709551616 from rfl]; omega
  have HP : Hid (plst oN 64 l ns = pgo oN (l ++ varint ns.length) ns) := by
    show _ = _
    unfold plst
    rw [if_neg hbig]
  have hvl := (varint_length ns.length).2
  have hv8 : ∀ x ∈ varint ns.length, x < 256 := varint_bytes ns.length (by omega)
  have HV8 := Lib.hid hv8
  have H8 := Lib.hid h8
  clear hv8 h8
  have hub := fun w => uint_bs (.slice none 0 0) [] ns.length w (Bs.nil _) (by simp) (by omega)
  rw [List.nil_append] at hub
  generalize varint ns.length = vn at *
  go_enter Try.func145, Try.ntmps145
  go_wp2_with (first
    | (go_at_call 78
       refine (hub _).mono ?_
       rintro e w1 ⟨v1, rfl, hov1, hbv1, hb1⟩
       obtain ⟨A1, c1, rfl, hl1, hm1, ha1, -, -⟩ := hov1.form)
    | (at_builtin
       refine wpList_app rfl (.tmp 18) (.tmp 22) rfl rfl (hown.below hb1 (Nat.le_refl _)) rfl ha1 rfl (by omega) (by have := hb1.size; omega) ?_
       intro v2 w2 hown2 hb2 _ _)
    | (fail))
  have hown3 : Own w2 base v2 (l ++ vn) := hown2
  have hb3 : Below base w w2 := (hb1.mono hbase).trans hb2
  have hacc8 : ∀ x ∈ l ++ vn, x < 256 := by
    intro x hx
    rcases List.mem_append.1 hx with hx | hx
    · exact H8.out x hx
    · exact HV8.out x hx
  have hacc : (l ++ vn).length ≤ 2000000 := by rw [List.length_append]; omega
  have HQ : Hid (plst oN 64 l ns = pgo oN (l ++ vn) (ns.drop 0)) := HP
  generalize l ++ vn = acc0 at *
  clear hub ha1 hown2 hb1 hb2 hbv1 hov1 hl1 hm1
  go_loopw [0, 26] (fun b i wr => ∃ (j : Nat) (acc : List Nat), j ≤ ns.length ∧ i = .int .i64 (j : Int) ∧ Own wr base b acc ∧ Hid (∀ x ∈ acc, x < 256) ∧ acc.length ≤ 2000000 ∧ Hid (plst oN 64 l ns = pgo oN acc (ns.drop j)) ∧ Below base w wr) (fun _ i _ => ns.length - (intOf i).toNat)
  case atStart => exact ⟨0, acc0, Nat.zero_le _, rfl, hown3, Lib.hid hacc8, hacc, HQ, hb3⟩
  case round =>
    clear hown3 hb3 hacc8 hacc HQ HP
    obtain ⟨j, acc, hj, rfl, hown3, HA8, hacc, HQ, hbr⟩ := hrel
    by_cases hlt : j < ns.length
    · obtain ⟨n, hn⟩ : ∃ n, n = ns[j] := ⟨_, rfl⟩
      have hnb := HNS.out n (by rw [hn]; exact List.getElem_mem hlt)
      obtain ⟨bb, o, rfl, hbb, hcl⟩ := (hat.below hbr) (by intro h0; rw [List.map_eq_nil_iff.1 h0] at hlt; simp at hlt)
      have hc0 := hcl j (.int .i64 n) (by simp [zv, hn, hlt])
      have hgo := pgo_go oN acc ns j hlt
      rw [← hn] at hgo
      have hgo : pgo oN acc (ns.drop j) = if 1048572 < acc.length + (gN n).length then none else pgo oN (acc ++ gN n) (ns.drop (j + 1)) := hgo
      rw [hgo] at HQ
      clear hgo hcl hn
      have hgl : (gN n).length ≤ 10 := (varint_length (zz n)).2
      have hg8 : ∀ x ∈ gN n, x < 256 := varint_bytes (zz n) (zz_lt n hnb.1 hnb.2)
      have HG8 := Lib.hid hg8
      clear hg8
      have hone := fun w => put1n_any n w hnb.1 hnb.2
      have hO : oN n = some (gN n) := rfl
      rw [hO] at hone
      clear hO
      generalize gN n = e at *
      obtain ⟨A3, c3, rfl, hl3, hm3, ha3, -, -⟩ := hown3.form
      by_cases hfit : 1048572 < acc.length + e.length
      · have k1 : decide ((1048572 : Int) < (acc.length : Int) + (e.length : Int)) = true := by rw [decide_eq_true_iff]; omega
        have k2 : decide (1048572 < acc.length + e.length) = true := by rw [decide_eq_true_iff]; omega
        rw [if_pos hfit] at HQ
        clear hfit
        go_wp2_with fail
        refine (hone _).mono ?_
        rintro e2 w3 ⟨hb4, v3, rfl, hv3⟩
        obtain ⟨⟨A4, c4, rfl, hc4, ha4⟩, -⟩ := hv3
        go_wp2_with fail
        refine bodyPost_ret (v := .tuple #[.slice none 0 0, .bool false]) (by simp [results, Try.results145, go_sem]) rfl ?_
        refine ⟨hbr.trans (hb4.mono (Nat.le_trans hbase hbr.size)), ?_⟩
        rw [HQ.out]
        exact ⟨_, rfl⟩
      · have k1 : decide ((1048572 : Int) < (acc.length : Int) + (e.length : Int)) = false := by rw [decide_eq_false_iff_not]; omega
        have k2 : decide (1048572 < acc.length + e.length) = false := by rw [decide_eq_false_iff_not]; omega
        rw [if_neg hfit] at HQ
        have hnew8 : ∀ x ∈ acc ++ e, x < 256 := by
          intro x hx
          rcases List.mem_append.1 hx with hx | hx
          · exact HA8.out x hx
          · exact HG8.out x hx
        have HN8 := Lib.hid hnew8
        have hnewl : (acc ++ e).length ≤ 2000000 := by rw [List.length_append]; omega
        clear hfit hnew8
        go_wp2_with fail
        refine (hone _).mono ?_
        rintro e2 w3 ⟨hb4, v3, rfl, hv3⟩
        obtain ⟨⟨A4, c4, rfl, hc4, ha4⟩, -⟩ := hv3
        go_wp2_with (first
          | (at_builtin
             refine wpList_app rfl (.tmp 46) (.tmp 47) rfl rfl (hown3.below hb4 (Nat.le_refl _)) rfl ha4 rfl (by omega) (Nat.le_trans hbase (Nat.le_trans hbr.size hb4.size)) ?_
             intro v5 w5 hown5 hb5 _ _)
          | (fail))
        have hown6 : Own w5 base v5 (acc ++ e) := hown5
        have hb6 : Below base w w5 := (hbr.trans (hb4.mono (Nat.le_trans hbase hbr.size))).trans hb5
        clear hown5 hb5 ha4 hone
        go_roundw
        case rel => exact ⟨j + 1, acc ++ e, by omega, by go_num, hown6, HN8, hnewl, HQ, hb6⟩
        case measure => simp [intOf]; omega
    · obtain ⟨A3, c3, rfl, hl3, hm3, ha3, -, -⟩ := hown3.form
      rw [pgo_end oN acc ns j (by omega)] at HQ
      by_cases hend : acc.length ≤ 1048572
      · have k1 : decide ((acc.length : Int) ≤ (1048572 : Int)) = true := by rw [decide_eq_true_iff]; omega
        have k2 : decide (acc.length ≤ 1048572) = true := by rw [decide_eq_true_iff]; omega
        rw [if_pos hend] at HQ
        clear hend
        go_wp2_with fail
        refine bodyPost_ret (v := .tuple #[.slice A3 acc.length c3, .bool true]) (by simp [results, Try.results145, go_sem]) rfl ?_
        refine ⟨hbr, ?_⟩
        rw [HQ.out]
        exact ⟨_, rfl, hown3, HA8.out⟩
      · have k1 : decide ((acc.length : Int) ≤ (1048572 : Int)) = false := by rw [decide_eq_false_iff_not]; omega
        have k2 : decide (acc.length ≤ 1048572) = false := by rw [decide_eq_false_iff_not]; omega
        rw [if_neg hend] at HQ
        clear hend
        go_wp2_with fail
        refine bodyPost_ret (v := .tuple #[.slice A3 acc.length c3, .bool false]) (by simp [results, Try.results145, go_sem]) rfl ?_
        refine ⟨hbr, ?_⟩
        rw [HQ.out]
        exact ⟨_, rfl⟩
end Go.Proofs.Ytjcefnlidophoaa
