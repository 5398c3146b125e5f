/- drover/frame.putList, its blobs: the walks. -/
import Derived.Test.YtjcefnlidophoaaPl1
namespace Go.Proofs.Ytjcefnlidophoaa
open Go.RowKit

def oB (x : List Nat) : Option (List Nat) := if 65536 < x.length then none else some (gB x)
set_option maxRecDepth 100000 in
set_option maxHeartbeats 800000 in
theorem put1b_any (v : Value) (x : List Nat) (w : World) (h : Bs w v x) : Calls Try.prog 152 #[v] w (OutOne (oB x) w) := by
  have h0 := Lib.hid h
  obtain ⟨⟨A, c, rfl, hc, -⟩, -⟩ := h
  by_cases hbig : 65536 < x.length
  · have g1 : decide ((65536 : Int) < (x.length : Int)) = true := by rw [decide_eq_true_iff]; omega
    have g1' : decide (65536 < x.length) = true := by rw [decide_eq_true_iff]; omega
    have HO : Hid (oB x = none) := if_pos hbig
    go_enter Try.func152, Try.ntmps152
    go_wp2_with fail
    refine bodyPost_ret (v := .tuple #[.slice none 0 0, .bool false]) (by simp [results, Try.results152, go_sem]) rfl ?_
    refine ⟨Below.refl _ _, ?_⟩
    rw [HO.out]
    exact ⟨_, rfl⟩
  · have g1 : decide ((65536 : Int) < (x.length : Int)) = false := by rw [decide_eq_false_iff_not]; omega
    have g1' : decide (65536 < x.length) = false := by rw [decide_eq_false_iff_not]; omega
    have HO : Hid (oB x = some (gB x)) := if_neg hbig
    go_enter Try.func152, Try.ntmps152
    go_wp2_with fail
    refine (blob_bs (.slice none 0 0) [] _ x _ (Bs.nil _) h0.out (by simp) (by omega)).mono ?_
    rintro e w1 ⟨v1, rfl, -, hv1, hb1⟩
    go_wp2_with fail
    refine bodyPost_ret (v := .tuple #[v1, .bool true]) (by simp [results, Try.results152, go_sem]) rfl ?_
    refine ⟨hb1, ?_⟩
    rw [HO.out]
    exact ⟨v1, rfl, by simpa [gB] using hv1⟩

set_option maxRecDepth 100000 in
set_option maxHeartbeats 1600000 in
theorem putblobs_any (base : Nat) (v : Value) (l : List Nat) (A : Option Addr) (c : Nat) (ns : List (List Nat)) (w : World) (hown : Own w base v l) (h8 : ∀ x ∈ l, x < 256) (hl : l.length ≤ 1048572) (hbase : base ≤ w.heap.size)
    (hat : BlkS w (fun b => b < base) A ns) :
    Calls Try.prog 151 #[v, .slice A ns.length c, .int .i64 16, .func (.func 152) #[] #[]] w (OutPl (plst oB 16 l ns) base w) := by
  by_cases hbig : 16 < ns.length
  · have g1 : decide ((16 : Int) < (ns.length : Int)) = true := by simp; omega
    have g1' : decide (16 < ns.length) = true := by simp; omega
    have HP : Hid (plst oB 16 l ns = none) := by
      show _ = _
      unfold plst
      rw [if_pos hbig]
    go_enter Try.func151, Try.ntmps151
    go_wp2_with fail
    refine bodyPost_ret (v := .tuple #[.slice none 0 0, .bool false]) (by simp [results, Try.results151, go_sem]) rfl ?_
    refine ⟨Below.refl _ _, ?_⟩
    rw [HP.out]
    exact ⟨_, rfl⟩
  have g1 : decide ((16 : Int) < (ns.length : Int)) = false := by rw [decide_eq_false_iff_not]; omega
  have g1' : decide (16 < ns.length) = false := by rw [decide_eq_false_iff_not]; omega
  have s1 : IntKind.u64.wrap (ns.length : Int) = (ns.length : Int) := by rw [show IntKind.u64.wrap (ns.length : Int) = (ns.length : Int) % 18446744073709551616 from rfl]; omega
  have HP : Hid (plst oB 16 l ns = pgo oB (l ++ varint ns.length) ns) := by
    show _ = _
    unfold plst
    rw [if_neg hbig]
  have hvl := (varint_length ns.length).2
  have hv8 : ∀ x ∈ varint ns.length, x < 256 := varint_bytes ns.length (by omega)
  have HV8 := Lib.hid hv8
  have H8 := Lib.hid h8
  clear hv8 h8
  have hub := fun w => uint_bs (.slice none 0 0) [] ns.length w (Bs.nil _) (by simp) (by omega)
  rw [List.nil_append] at hub
  generalize varint ns.length = vn at *
  go_enter Try.func151, Try.ntmps151
  go_wp2_with (first
    | (go_at_call 78
       refine (hub _).mono ?_
       rintro e w1 ⟨v1, rfl, hov1, hbv1, hb1⟩
       obtain ⟨A1, c1, rfl, hl1, hm1, ha1, -, -⟩ := hov1.form)
    | (at_builtin
       refine wpList_app rfl (.tmp 18) (.tmp 22) rfl rfl (hown.below hb1 (Nat.le_refl _)) rfl ha1 rfl (by omega) (by have := hb1.size; omega) ?_
       intro v2 w2 hown2 hb2 _ _)
    | (fail))
  have hown3 : Own w2 base v2 (l ++ vn) := hown2
  have hb3 : Below base w w2 := (hb1.mono hbase).trans hb2
  have hacc8 : ∀ x ∈ l ++ vn, x < 256 := by
    intro x hx
    rcases List.mem_append.1 hx with hx | hx
    · exact H8.out x hx
    · exact HV8.out x hx
  have hacc : (l ++ vn).length ≤ 2000000 := by rw [List.length_append]; omega
  have HQ : Hid (plst oB 16 l ns = pgo oB (l ++ vn) (ns.drop 0)) := HP
  generalize l ++ vn = acc0 at *
  clear hub ha1 hown2 hb1 hb2 hbv1 hov1 hl1 hm1
  go_loopw [0, 26] (fun b i wr => ∃ (j : Nat) (acc : List Nat), j ≤ ns.length ∧ i = .int .i64 (j : Int) ∧ Own wr base b acc ∧ Hid (∀ x ∈ acc, x < 256) ∧ acc.length ≤ 2000000 ∧ Hid (plst oB 16 l ns = pgo oB acc (ns.drop j)) ∧ Below base w wr) (fun _ i _ => ns.length - (intOf i).toNat)
  case atStart => exact ⟨0, acc0, Nat.zero_le _, rfl, hown3, Lib.hid hacc8, hacc, HQ, hb3⟩
  case round =>
    clear hown3 hb3 hacc8 hacc HQ HP
    obtain ⟨j, acc, hj, rfl, hown3, HA8, hacc, HQ, hbr⟩ := hrel
    by_cases hlt : j < ns.length
    · obtain ⟨n, hn⟩ : ∃ n, n = ns[j] := ⟨_, rfl⟩
      obtain ⟨bb, o, Ae, ce, rfl, hbb, hcl, hce, hae, he8⟩ := hat j n (by rw [hn]; exact List.getElem?_eq_getElem hlt)
      have hc0 : wr.cell? ⟨bb, o + j, none⟩ = some (.slice Ae n.length ce) := (hbr.cell hbb).trans hcl
      have hbs : Bs wr (.slice Ae n.length ce) n := ⟨⟨Ae, ce, rfl, hce, ((hae.at_ (fun _ h => h)).below hbr).more (Nat.le_trans hbase hbr.size)⟩, he8⟩
      have hgo := pgo_go oB acc ns j hlt
      rw [← hn] at hgo
      clear hcl hn hae
      have hone := put1b_any _ n wr hbs
      clear hbs
      cases hO : oB n with
      | none =>
        rw [hO] at hgo hone
        have hgo : pgo oB acc (ns.drop j) = none := hgo
        rw [hgo] at HQ
        clear hO hgo
        obtain ⟨A3, c3, rfl, hl3, hm3, ha3, -, -⟩ := hown3.form
        go_wp2_with fail
        refine hone.mono ?_
        rintro e2 w3 ⟨hb4, v3, rfl⟩
        go_wp2_with fail
        refine bodyPost_ret (v := .tuple #[.slice none 0 0, .bool false]) (by simp [results, Try.results151, go_sem]) rfl ?_
        refine ⟨hbr.trans (hb4.mono (Nat.le_trans hbase hbr.size)), ?_⟩
        rw [HQ.out]
        exact ⟨_, rfl⟩
      | some e =>
      have hgl : e.length ≤ 65546 ∧ ∀ x ∈ e, x < 256 := by
        unfold oB at hO
        split at hO
        · cases hO
        · obtain rfl := Option.some.inj hO
          have h1 := (varint_length n.length).2
          refine ⟨by unfold gB; rw [List.length_append]; omega, fun x hx => ?_⟩
          rcases List.mem_append.1 hx with hx | hx
          · exact varint_bytes n.length (by omega) x hx
          · exact he8 x hx
      obtain ⟨hgl, hg8⟩ := hgl
      have HG8 := Lib.hid hg8
      clear hg8
      rw [hO] at hgo hone
      have hgo : pgo oB acc (ns.drop j) = if 1048572 < acc.length + e.length then none else pgo oB (acc ++ e) (ns.drop (j + 1)) := hgo
      rw [hgo] at HQ
      clear hO hgo
      obtain ⟨A3, c3, rfl, hl3, hm3, ha3, -, -⟩ := hown3.form
      by_cases hfit : 1048572 < acc.length + e.length
      · have k1 : decide ((1048572 : Int) < (acc.length : Int) + (e.length : Int)) = true := by rw [decide_eq_true_iff]; omega
        have k2 : decide (1048572 < acc.length + e.length) = true := by rw [decide_eq_true_iff]; omega
        rw [if_pos hfit] at HQ
        clear hfit
        go_wp2_with fail
        refine hone.mono ?_
        rintro e2 w3 ⟨hb4, v3, rfl, hv3⟩
        obtain ⟨⟨A4, c4, rfl, hc4, ha4⟩, -⟩ := hv3
        go_wp2_with fail
        refine bodyPost_ret (v := .tuple #[.slice none 0 0, .bool false]) (by simp [results, Try.results151, go_sem]) rfl ?_
        refine ⟨hbr.trans (hb4.mono (Nat.le_trans hbase hbr.size)), ?_⟩
        rw [HQ.out]
        exact ⟨_, rfl⟩
      · have k1 : decide ((1048572 : Int) < (acc.length : Int) + (e.length : Int)) = false := by rw [decide_eq_false_iff_not]; omega
        have k2 : decide (1048572 < acc.length + e.length) = false := by rw [decide_eq_false_iff_not]; omega
        rw [if_neg hfit] at HQ
        have hnew8 : ∀ x ∈ acc ++ e, x < 256 := by
          intro x hx
          rcases List.mem_append.1 hx with hx | hx
          · exact HA8.out x hx
          · exact HG8.out x hx
        have HN8 := Lib.hid hnew8
        have hnewl : (acc ++ e).length ≤ 2000000 := by rw [List.length_append]; omega
        clear hfit hnew8
        go_wp2_with fail
        refine hone.mono ?_
        rintro e2 w3 ⟨hb4, v3, rfl, hv3⟩
        obtain ⟨⟨A4, c4, rfl, hc4, ha4⟩, -⟩ := hv3
        go_wp2_with (first
          | (at_builtin
             refine wpList_app rfl (.tmp 46) (.tmp 47) rfl rfl (hown3.below hb4 (Nat.le_refl _)) rfl ha4 rfl (by omega) (Nat.le_trans hbase (Nat.le_trans hbr.size hb4.size)) ?_
             intro v5 w5 hown5 hb5 _ _)
          | (fail))
        have hown6 : Own w5 base v5 (acc ++ e) := hown5
        have hb6 : Below base w w5 := (hbr.trans (hb4.mono (Nat.le_trans hbase hbr.size))).trans hb5
        clear hown5 hb5 ha4
        go_roundw
        case rel => exact ⟨j + 1, acc ++ e, by omega, by go_num, hown6, HN8, hnewl, HQ, hb6⟩
        case measure => simp [intOf]; omega
    · obtain ⟨A3, c3, rfl, hl3, hm3, ha3, -, -⟩ := hown3.form
      rw [pgo_end oB acc ns j (by omega)] at HQ
      by_cases hend : acc.length ≤ 1048572
      · have k1 : decide ((acc.length : Int) ≤ (1048572 : Int)) = true := by rw [decide_eq_true_iff]; omega
        have k2 : decide (acc.length ≤ 1048572) = true := by rw [decide_eq_true_iff]; omega
        rw [if_pos hend] at HQ
        clear hend
        go_wp2_with fail
        refine bodyPost_ret (v := .tuple #[.slice A3 acc.length c3, .bool true]) (by simp [results, Try.results151, go_sem]) rfl ?_
        refine ⟨hbr, ?_⟩
        rw [HQ.out]
        exact ⟨_, rfl, hown3, HA8.out⟩
      · have k1 : decide ((acc.length : Int) ≤ (1048572 : Int)) = false := by rw [decide_eq_false_iff_not]; omega
        have k2 : decide (acc.length ≤ 1048572) = false := by rw [decide_eq_false_iff_not]; omega
        rw [if_neg hend] at HQ
        clear hend
        go_wp2_with fail
        refine bodyPost_ret (v := .tuple #[.slice A3 acc.length c3, .bool false]) (by simp [results, Try.results151, go_sem]) rfl ?_
        refine ⟨hbr, ?_⟩
        rw [HQ.out]
        exact ⟨_, rfl⟩
end Go.Proofs.Ytjcefnlidophoaa
