/- drover/log.first: the walk. -/
import Derived.Test.YtcmopnkldplngaaLb
import Derived.Test.YtcmopnkldplngaaCells
namespace Go.Proofs.Ytcmopnkldplngaa
open Go.RowKit

theorem bel_drewN1 {B : Nat} {a w : World} (h : Below B a w) (k : Nat) : Below B a (w.drewN k) := ⟨h.os, h.tape, h.output, h.size, h.block⟩
set_option maxHeartbeats 800000 in
theorem first_rest (l : List Nat) (w : World) (b o c : Nat) (A8 : Option Addr) (n4 s4 : Nat) (hlt : 8 ≤ l.length) (hn : l.length ≤ 1099511627776) (hc : l.length ≤ c) (t1 : decide ((l.length : Int) < 8) = false)
    (HF : Hid (lfirst l = if 1048576 < n4 then [] else if l.length - 8 < n4 then [] else if s4 = crcN ((l.drop 8).take n4) then (l.drop 8).take n4 else []))
    (HN : Hid (∀ m, Calls Try.prog 40 #[.slice (some ⟨b, o, none⟩) l.length c] (w.drewN m) fun e w' => e = .returned (.int .u32 (n4 : Nat)) ∧ w' = w.drewN m))
    (HS : Hid (∀ m, Calls Try.prog 40 #[.slice (some ⟨b, o + 4, none⟩) (l.length - 4) (c - 4)] (w.drewN m) fun e w' => e = .returned (.int .u32 (s4 : Nat)) ∧ w' = w.drewN m))
    (hA : c ≠ 8 → A8 = some ⟨b, o + 8, none⟩) (hA' : c = 8 → A8 = some ⟨b, o, none⟩) (hlt4 : n4 < 4294967296) (hv8 : Bs w (.slice A8 (l.length - 8) (c - 8)) (l.drop 8)) :
    Calls Try.prog 35 #[.slice (some ⟨b, o, none⟩) l.length c] w fun e w' => ∃ u, e = .returned u ∧ Bs w' u (lfirst l) ∧ Below w.heap.size w w' := by
  have hdl : (l.drop 8).length = l.length - 8 := by rw [List.length_drop]
  have HV := Lib.hid hv8
  go_enter Try.func35, Try.ntmps35
  go_wp2_with fail
  go_quiet (first | (go_at_call 40; with_reducible exact Calls.quiet_of_same (HN.out _)) | (go_at_call 40; with_reducible exact Calls.quiet_of_same (HS.out _)) | (fail))
  have hbq := bel_drewN1 (Below.refl w.heap.size w) nq
  by_cases h1 : 1048576 < n4
  · have t2 : decide ((1048576 : Int) < (n4 : Int)) = true := decide_eq_true (by omega)
    have t2' : decide (1048576 < n4) = true := decide_eq_true h1
    rw [if_pos h1] at HF
    clear h1
    go_wp2_with fail
    all_goals
      go_ret
      rw [HF.out]
      exact ⟨_, rfl, Bs.nil _, hbq⟩
  have t2 : decide ((1048576 : Int) < (n4 : Int)) = false := decide_eq_false (by omega)
  have t2' : decide (1048576 < n4) = false := decide_eq_false h1
  rw [if_neg h1] at HF
  by_cases h2 : l.length - 8 < n4
  · have t3 : decide (((l.length - 8 : Nat) : Int) < (n4 : Int)) = true := decide_eq_true (by omega)
    have t3' : decide (l.length - 8 < n4) = true := decide_eq_true h2
    rw [if_pos h2] at HF
    clear h2
    go_wp2_with fail
    all_goals
      go_ret
      rw [HF.out]
      exact ⟨_, rfl, Bs.nil _, hbq⟩
  have t3 : decide (((l.length - 8 : Nat) : Int) < (n4 : Int)) = false := decide_eq_false (by omega)
  have t3' : decide (l.length - 8 < n4) = false := decide_eq_false h2
  rw [if_neg h2] at HF
  have hlen : ((l.drop 8).take n4).length = n4 := by rw [List.length_take, hdl]; omega
  have hu := Lib.hid (hv8.pre n4 (by omega))
  generalize (l.drop 8).take n4 = x at *
  generalize hs : crcN x = s at *
  have hcr := Lib.hid (crc_bs _ x _ (hu.out.drewN nq) (by omega))
  rw [hs] at hcr
  clear hs hv8
  go_wp2_with fail
  case inl =>
    have hc0 : c = 8 := by omega
    subst hc0
    obtain rfl := hA' rfl
    refine hcr.out.mono ?_
    rintro e wx ⟨rfl, rfl⟩
    by_cases h3 : s4 = s
    · subst h3
      rw [if_pos rfl] at HF
      go_wp2_with fail
      go_ret
      rw [HF.out]
      exact ⟨_, rfl, hu.out.drewN nq, hbq⟩
    · have hne : ((s4 : Int) == (s : Int)) = false := by simp; omega
      have hne' : ((s4 : Int) != (s : Int)) = true := by simp; omega
      rw [if_neg h3] at HF
      go_wp2_with fail
      go_ret
      rw [HF.out]
      exact ⟨_, rfl, Bs.nil _, hbq⟩
  case inr =>
    obtain rfl := hA (by omega)
    refine hcr.out.mono ?_
    rintro e wx ⟨rfl, rfl⟩
    by_cases h3 : s4 = s
    · subst h3
      rw [if_pos rfl] at HF
      go_wp2_with fail
      go_ret
      rw [HF.out]
      exact ⟨_, rfl, hu.out.drewN nq, hbq⟩
    · have hne : ((s4 : Int) == (s : Int)) = false := by simp; omega
      have hne' : ((s4 : Int) != (s : Int)) = true := by simp; omega
      rw [if_neg h3] at HF
      go_wp2_with fail
      go_ret
      rw [HF.out]
      exact ⟨_, rfl, Bs.nil _, hbq⟩
set_option maxHeartbeats 800000 in
theorem first_any (v : Value) (l : List Nat) (w : World) (h : Bs w v l) (hn : l.length ≤ 1099511627776) :
    Calls Try.prog 35 #[v] w fun e w' => ∃ u, e = .returned u ∧ Bs w' u (lfirst l) ∧ Below w.heap.size w w' := by
  have hv := Lib.hid h
  obtain ⟨⟨A, c, rfl, hc, ha⟩, h8⟩ := h
  by_cases hlt : l.length < 8
  · have t1 : decide ((l.length : Int) < 8) = true := decide_eq_true (by omega)
    have HF : Hid (lfirst l = []) := by
      show _ = _
      unfold lfirst
      rw [if_pos hlt]
    go_enter Try.func35, Try.ntmps35
    go_wp2_with fail
    go_ret
    rw [HF.out]
    exact ⟨_, rfl, Bs.nil _, Below.refl _ _⟩
  · have t1 : decide ((l.length : Int) < 8) = false := decide_eq_false (by omega)
    have HF : Hid (lfirst l = if 1048576 < beN (l.take 4) then [] else if l.length - 8 < beN (l.take 4) then [] else if beN ((l.drop 4).take 4) = crcN ((l.drop 8).take (beN (l.take 4))) then (l.drop 8).take (beN (l.take 4)) else []) := by
      show _ = _
      conv => lhs; unfold lfirst
      rw [if_neg hlt]
    obtain ⟨b, o, rfl, hb, -⟩ := ha.byte (by intro h0; subst h0; simp at hlt)
    have hv4 := hv.out.drop 4 (by omega)
    rw [if_neg (by omega)] at hv4
    have HN : Hid (∀ m, Calls Try.prog 40 #[.slice (some ⟨b, o, none⟩) l.length c] (w.drewN m) fun e w' => e = .returned (.int .u32 (beN (l.take 4) : Nat)) ∧ w' = w.drewN m) :=
      fun m => (number_any _ l _ (hv.out.drewN m) (by omega)).mono fun e w' h => ⟨h.1, h.2.symm⟩
    have HS : Hid (∀ m, Calls Try.prog 40 #[.slice (some ⟨b, o + 4, none⟩) (l.length - 4) (c - 4)] (w.drewN m) fun e w' => e = .returned (.int .u32 (beN ((l.drop 4).take 4) : Nat)) ∧ w' = w.drewN m) :=
      fun m => (number_any _ (l.drop 4) _ (hv4.drewN m) (by rw [List.length_drop]; omega)).mono fun e w' h => ⟨h.1, h.2.symm⟩
    have hlt4 : beN (l.take 4) < 4294967296 := Nat.lt_of_lt_of_le (beN_lt _ (fun x hx => h8 x (List.mem_of_mem_take hx))) (by
      have : (l.take 4).length ≤ 4 := by simp; omega
      exact Nat.le_trans (Nat.pow_le_pow_right (n := 256) (by omega) this) (by decide))
    generalize beN (l.take 4) = n4 at *
    generalize beN ((l.drop 4).take 4) = s4 at *
    clear hv4 h8 ha
    by_cases hc8 : c = 8
    · subst hc8
      have hl8 : l.length = 8 := by omega
      have hv8 := hv.out.drop 8 (by omega)
      rw [if_pos rfl] at hv8
      exact first_rest l w b o 8 (some ⟨b, o, none⟩) n4 s4 (by omega) hn hc t1 HF HN HS (fun h => absurd rfl h) (fun _ => rfl) hlt4 hv8
    · have hv8 := hv.out.drop 8 (by omega)
      rw [if_neg hc8] at hv8
      exact first_rest l w b o c (some ⟨b, o + 8, none⟩) n4 s4 (by omega) hn hc t1 HF HN HS (fun _ => rfl) (fun h => absurd h hc8) hlt4 hv8
end Go.Proofs.Ytcmopnkldplngaa
