/- drover/frame.putList, its values: the walks. -/
import Derived.Test.YtjcefnlidophoaaPl2
namespace Go.Proofs.Ytjcefnlidophoaa
open Go.RowKit

def oV (t : Va) : Option (List Nat) := if right t = true then some (enc 16 t) else none
set_option maxRecDepth 100000 in
set_option maxHeartbeats 800000 in
theorem put1v_any (v : Value) (t : Va) (w : World) (B : Nat) (h : Rep w B v t) (hB : B ≤ w.heap.size) : Calls Try.prog 149 #[v] w (OutOne (oV t) w) := by
  have h0 := Lib.hid h
  have hok := Lib.hid (h.ok 16)
  obtain ⟨y0, y1, y2, y3, rfl⟩ := h.form
  obtain ⟨k, n, s, p⟩ := t
  obtain ⟨A', c', rfl, rfl, rfl, rfl, -⟩ := h.parts
  clear h
  have hbx := (Below.refl w.heap.size w).alloc (Nat.le_refl _) (.cells #[.int .u8 (k : Int), .int .i64 n, .string (strOf s), .slice A' p.length c'] 43)
  have hcall := put_any _ _ (.slice none 0 0) [] _ B (h0.out.under ((Below.refl B w).alloc hB (.cells #[.int .u8 (k : Int), .int .i64 n, .string (strOf s), .slice A' p.length c'] 43))) (by simp; omega) (Bs.nil _) (by simp)
  generalize ht : Va.mk k n s p = t at *
  clear ht
  have HC := Lib.hid hcall
  clear hcall h0
  cases hr : right t with
  | false =>
    have HO : Hid (oV t = none) := by
      show _ = _
      unfold oV
      rw [if_neg (by rw [hr]; decide)]
    have HR := Lib.hid hr
    clear hr
    go_enter Try.func149, Try.ntmps149
    go_wp2_with fail
    refine HC.out.mono ?_
    rintro e w1 ⟨hb1, hf, -⟩
    obtain rfl := hf HR.out
    clear hf
    have hb2 := nxt hbx hb1
    go_wp2_with fail
    refine bodyPost_ret (v := .tuple #[.slice none 0 0, .bool false]) (by simp [results, Try.results149, go_sem]) rfl ?_
    refine ⟨hb2, ?_⟩
    rw [HO.out]
    exact ⟨_, rfl⟩
  | true =>
    have HO : Hid (oV t = some (enc 16 t)) := if_pos hr
    have HR := Lib.hid hr
    clear hr
    go_enter Try.func149, Try.ntmps149
    go_wp2_with fail
    refine HC.out.mono ?_
    rintro e w1 ⟨hb1, -, hf⟩
    obtain ⟨u, rfl, hown⟩ := hf HR.out
    clear hf
    have hb2 := nxt hbx hb1
    go_wp2_with fail
    refine bodyPost_ret (v := .tuple #[u, .bool true]) (by simp [results, Try.results149, go_sem]) rfl ?_
    refine ⟨hb2, ?_⟩
    rw [HO.out]
    exact ⟨u, rfl, Bs.of_own hown (enc_bytes HR.out hok.out)⟩

set_option maxRecDepth 100000 in
set_option maxHeartbeats 1600000 in
theorem putvals_any (base : Nat) (v : Value) (l : List Nat) (A : Option Addr) (c : Nat) (ns : List Va) (w : World) (hown : Own w base v l) (h8 : ∀ x ∈ l, x < 256) (hl : l.length ≤ 1048572) (hbase : base ≤ w.heap.size)
    (hat : Reps w base A ns) :
    Calls Try.prog 148 #[v, .slice A ns.length c, .int .i64 64, .func (.func 149) #[] #[]] w (OutPl (plst oV 64 l ns) base w) := by
  by_cases hbig : 64 < ns.length
  · have g1 : decide ((64 : Int) < (ns.length : Int)) = true := by simp; omega
    have g1' : decide (64 < ns.length) = true := by simp; omega
    have HP : Hid (plst oV 64 l ns = none) := by
      show _ = _
      unfold plst
      rw [if_pos hbig]
    go_enter Try.func148, Try.ntmps148
    go_wp2_with fail
    refine bodyPost_ret (v := .tuple #[.slice none 0 0, .bool false]) (by simp [results, Try.results148, go_sem]) rfl ?_
    refine ⟨Below.refl _ _, ?_⟩
    rw [HP.out]
    exact ⟨_, rfl⟩
  have g1 : decide ((64 : Int) < (ns.length : Int)) = false := by rw [decide_eq_false_iff_not]; omega
  have g1' : decide (64 < ns.length) = false := by rw [decide_eq_false_iff_not]; omega
  have s1 : IntKind.u64.wrap (ns.length : Int) = (ns.length : Int) := by rw [show IntKind.u64.wrap (ns.length : Int) = (ns.length : Int) % 18446744073709551616 from rfl]; omega
  have HP : Hid (plst oV 64 l ns = pgo oV (l ++ varint ns.length) ns) := by
    show _ = _
    unfold plst
    rw [if_neg hbig]
  have hvl := (varint_length ns.length).2
  have hv8 : ∀ x ∈ varint ns.length, x < 256 := varint_bytes ns.length (by omega)
  have HV8 := Lib.hid hv8
  have H8 := Lib.hid h8
  clear hv8 h8
  have hub := fun w => uint_bs (.slice none 0 0) [] ns.length w (Bs.nil _) (by simp) (by omega)
  rw [List.nil_append] at hub
  generalize varint ns.length = vn at *
  go_enter Try.func148, Try.ntmps148
  go_wp2_with (first
    | (go_at_call 78
       refine (hub _).mono ?_
       rintro e w1 ⟨v1, rfl, hov1, hbv1, hb1⟩
       obtain ⟨A1, c1, rfl, hl1, hm1, ha1, -, -⟩ := hov1.form)
    | (at_builtin
       refine wpList_app rfl (.tmp 18) (.tmp 22) rfl rfl (hown.below hb1 (Nat.le_refl _)) rfl ha1 rfl (by omega) (by have := hb1.size; omega) ?_
       intro v2 w2 hown2 hb2 _ _)
    | (fail))
  have hown3 : Own w2 base v2 (l ++ vn) := hown2
  have hb3 : Below base w w2 := (hb1.mono hbase).trans hb2
  have hacc8 : ∀ x ∈ l ++ vn, x < 256 := by
    intro x hx
    rcases List.mem_append.1 hx with hx | hx
    · exact H8.out x hx
    · exact HV8.out x hx
  have hacc : (l ++ vn).length ≤ 2000000 := by rw [List.length_append]; omega
  have HQ : Hid (plst oV 64 l ns = pgo oV (l ++ vn) (ns.drop 0)) := HP
  generalize l ++ vn = acc0 at *
  clear hub ha1 hown2 hb1 hb2 hbv1 hov1 hl1 hm1
  go_loopw [0, 26] (fun b i wr => ∃ (j : Nat) (acc : List Nat), j ≤ ns.length ∧ i = .int .i64 (j : Int) ∧ Own wr base b acc ∧ Hid (∀ x ∈ acc, x < 256) ∧ acc.length ≤ 2000000 ∧ Hid (plst oV 64 l ns = pgo oV acc (ns.drop j)) ∧ Below base w wr) (fun _ i _ => ns.length - (intOf i).toNat)
  case atStart => exact ⟨0, acc0, Nat.zero_le _, rfl, hown3, Lib.hid hacc8, hacc, HQ, hb3⟩
  case round =>
    clear hown3 hb3 hacc8 hacc HQ HP
    obtain ⟨j, acc, hj, rfl, hown3, HA8, hacc, HQ, hbr⟩ := hrel
    by_cases hlt : j < ns.length
    · obtain ⟨n, hn⟩ : ∃ n, n = ns[j] := ⟨_, rfl⟩
      obtain ⟨bb, o, y0, y1, y2, y3, rfl, hbb, hrange, hrepj⟩ := hat.at j hlt
      rw [← hn] at hrepj
      have hgo := pgo_go oV acc ns j hlt
      rw [← hn] at hgo
      have hrepj' := hrepj.under hbr
      have hok := hrepj.ok 16
      obtain ⟨kj, nj, sj, lj⟩ := n
      obtain ⟨Aj, cj, rfl, rfl, rfl, rfl, -, -, -, -, -, -, -, -⟩ := hrepj.parts
      have hrange' : wr.rangeAt bb (o + j * 4) _ := fun i u hu => (hbr.cell hbb).trans (hrange i u hu)
      have d0 : wr.cell? ⟨bb, o + j * 4, none⟩ = some _ := hrange' 0 _ rfl
      have d1 : wr.cell? ⟨bb, o + j * 4 + 1, none⟩ = some _ := hrange' 1 _ rfl
      have d2 : wr.cell? ⟨bb, o + j * 4 + 2, none⟩ = some _ := hrange' 2 _ rfl
      have d3 : wr.cell? ⟨bb, o + j * 4 + 3, none⟩ = some _ := hrange' 3 _ rfl
      have hbx := (Below.refl wr.heap.size wr).alloc (Nat.le_refl _) (.cells #[.int .u8 (kj : Int), .int .i64 nj, .string (strOf sj), .slice Aj lj.length cj] 43)
      have hone := put1v_any _ _ _ base (hrepj'.under ((Below.refl base wr).alloc (Nat.le_trans hbase hbr.size) (.cells #[.int .u8 (kj : Int), .int .i64 nj, .string (strOf sj), .slice Aj lj.length cj] 43))) (by have := hbr.size; simp; omega)
      clear hn hrepj hrepj' hrange hrange'
      cases hO : oV (.mk kj nj sj lj) with
      | none =>
        rw [hO] at hgo hone
        have hgo : pgo oV acc (ns.drop j) = none := hgo
        rw [hgo] at HQ
        clear hO hgo
        obtain ⟨A3, c3, rfl, hl3, hm3, ha3, -, -⟩ := hown3.form
        go_wp2_with fail
        refine hone.mono ?_
        rintro e2 w3 ⟨hb4, v3, rfl⟩
        have hb4 := nxt hbx hb4
        go_wp2_with fail
        refine bodyPost_ret (v := .tuple #[.slice none 0 0, .bool false]) (by simp [results, Try.results148, go_sem]) rfl ?_
        refine ⟨hbr.trans (hb4.mono (Nat.le_trans hbase hbr.size)), ?_⟩
        rw [HQ.out]
        exact ⟨_, rfl⟩
      | some e =>
      have hgl : e.length ≤ 1052160 ∧ ∀ x ∈ e, x < 256 := by
        unfold oV at hO
        split at hO
        · rename_i hr
          obtain rfl := Option.some.inj hO
          exact ⟨enc_short hr, enc_bytes hr hok⟩
        · cases hO
      obtain ⟨hgl, hg8⟩ := hgl
      have HG8 := Lib.hid hg8
      clear hg8
      rw [hO] at hgo hone
      have hgo : pgo oV acc (ns.drop j) = if 1048572 < acc.length + e.length then none else pgo oV (acc ++ e) (ns.drop (j + 1)) := hgo
      rw [hgo] at HQ
      clear hO hgo
      obtain ⟨A3, c3, rfl, hl3, hm3, ha3, -, -⟩ := hown3.form
      by_cases hfit : 1048572 < acc.length + e.length
      · have k1 : decide ((1048572 : Int) < (acc.length : Int) + (e.length : Int)) = true := by rw [decide_eq_true_iff]; omega
        have k2 : decide (1048572 < acc.length + e.length) = true := by rw [decide_eq_true_iff]; omega
        rw [if_pos hfit] at HQ
        clear hfit
        go_wp2_with fail
        refine hone.mono ?_
        rintro e2 w3 ⟨hb4, v3, rfl, hv3⟩
        have hb4 := nxt hbx hb4
        obtain ⟨⟨A4, c4, rfl, hc4, ha4⟩, -⟩ := hv3
        go_wp2_with fail
        refine bodyPost_ret (v := .tuple #[.slice none 0 0, .bool false]) (by simp [results, Try.results148, go_sem]) rfl ?_
        refine ⟨hbr.trans (hb4.mono (Nat.le_trans hbase hbr.size)), ?_⟩
        rw [HQ.out]
        exact ⟨_, rfl⟩
      · have k1 : decide ((1048572 : Int) < (acc.length : Int) + (e.length : Int)) = false := by rw [decide_eq_false_iff_not]; omega
        have k2 : decide (1048572 < acc.length + e.length) = false := by rw [decide_eq_false_iff_not]; omega
        rw [if_neg hfit] at HQ
        have hnew8 : ∀ x ∈ acc ++ e, x < 256 := by
          intro x hx
          rcases List.mem_append.1 hx with hx | hx
          · exact HA8.out x hx
          · exact HG8.out x hx
        have HN8 := Lib.hid hnew8
        have hnewl : (acc ++ e).length ≤ 2000000 := by rw [List.length_append]; omega
        clear hfit hnew8
        go_wp2_with fail
        refine hone.mono ?_
        rintro e2 w3 ⟨hb4, v3, rfl, hv3⟩
        have hb4 := nxt hbx hb4
        obtain ⟨⟨A4, c4, rfl, hc4, ha4⟩, -⟩ := hv3
        go_wp2_with (first
          | (at_builtin
             refine wpList_app rfl (.tmp 46) (.tmp 47) rfl rfl (hown3.below hb4 (Nat.le_refl _)) rfl ha4 rfl (by omega) (Nat.le_trans hbase (Nat.le_trans hbr.size hb4.size)) ?_
             intro v5 w5 hown5 hb5 _ _)
          | (fail))
        have hown6 : Own w5 base v5 (acc ++ e) := hown5
        have hb6 : Below base w w5 := (hbr.trans (hb4.mono (Nat.le_trans hbase hbr.size))).trans hb5
        clear hown5 hb5 ha4
        go_roundw
        case rel => exact ⟨j + 1, acc ++ e, by omega, by go_num, hown6, HN8, hnewl, HQ, hb6⟩
        case measure => simp [intOf]; omega
    · obtain ⟨A3, c3, rfl, hl3, hm3, ha3, -, -⟩ := hown3.form
      rw [pgo_end oV acc ns j (by omega)] at HQ
      by_cases hend : acc.length ≤ 1048572
      · have k1 : decide ((acc.length : Int) ≤ (1048572 : Int)) = true := by rw [decide_eq_true_iff]; omega
        have k2 : decide (acc.length ≤ 1048572) = true := by rw [decide_eq_true_iff]; omega
        rw [if_pos hend] at HQ
        clear hend
        go_wp2_with fail
        refine bodyPost_ret (v := .tuple #[.slice A3 acc.length c3, .bool true]) (by simp [results, Try.results148, go_sem]) rfl ?_
        refine ⟨hbr, ?_⟩
        rw [HQ.out]
        exact ⟨_, rfl, hown3, HA8.out⟩
      · have k1 : decide ((acc.length : Int) ≤ (1048572 : Int)) = false := by rw [decide_eq_false_iff_not]; omega
        have k2 : decide (acc.length ≤ 1048572) = false := by rw [decide_eq_false_iff_not]; omega
        rw [if_neg hend] at HQ
        clear hend
        go_wp2_with fail
        refine bodyPost_ret (v := .tuple #[.slice A3 acc.length c3, .bool false]) (by simp [results, Try.results148, go_sem]) rfl ?_
        refine ⟨hbr, ?_⟩
        rw [HQ.out]
        exact ⟨_, rfl⟩
end Go.Proofs.Ytjcefnlidophoaa
