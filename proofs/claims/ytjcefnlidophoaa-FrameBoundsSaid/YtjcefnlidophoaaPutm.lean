/- drover/frame.body, Put, Right: the walks. -/
import Derived.Test.YtjcefnlidophoaaPl3
namespace Go.Proofs.Ytjcefnlidophoaa
open Go.RowKit

section
variable {α : Type}
theorem pgo_len (f : α → Option (List Nat)) : ∀ (xs : List α) (b l : List Nat), pgo f b xs = some l → l.length ≤ 1048572
  | [], b, l, h => by
    rw [pgo] at h
    split at h
    · obtain rfl := Option.some.inj h
      assumption
    · cases h
  | x :: xs, b, l, h => by
    rw [pgo] at h
    split at h
    · cases h
    · split at h
      · cases h
      · exact pgo_len f xs _ l h
theorem plst_len {f : α → Option (List Nat)} {most : Nat} {b l : List Nat} {xs : List α} (h : plst f most b xs = some l) : l.length ≤ 1048572 := by
  unfold plst at h
  split at h
  · cases h
  · exact pgo_len f xs _ l h
end
theorem plst_p {α : Type} (f : α → Option (List Nat)) (g : α → List Nat) (p : α → Bool) (hf : ∀ x e, f x = some e → e = g x) (hp : ∀ x, (f x).isSome = p x) (most : Nat) (xs : List α) (b : List Nat) :
    plst f most b xs = if decide (xs.length ≤ most) && xs.all p && decide ((b ++ varint xs.length ++ xs.flatMap g).length ≤ 1048572) then some (b ++ varint xs.length ++ xs.flatMap g) else none := by
  obtain rfl : (fun x => (f x).isSome) = p := funext hp
  exact plst_all f g hf most xs b
/-- A message's bytes, if it is right. -/
def mbody (m : Ms) : Option (List Nat) := match plst oN 64 [m.k] m.nums with
  | none => none
  | some l1 => match plst oV 64 l1 m.vals with
    | none => none
    | some l2 => plst oB 16 l2 m.blobs
theorem oN_eq (x : Int) (e : List Nat) (h : oN x = some e) : e = gN x := (Option.some.inj h).symm
theorem oV_eq (x : Va) (e : List Nat) (h : oV x = some e) : e = enc 16 x := by
  unfold oV at h
  split at h
  · exact (Option.some.inj h).symm
  · cases h
theorem oB_eq (x : List Nat) (e : List Nat) (h : oB x = some e) : e = gB x := by
  unfold oB at h
  split at h
  · cases h
  · exact (Option.some.inj h).symm
theorem oN_some (x : Int) : (oN x).isSome = true := rfl
theorem oV_some (x : Va) : (oV x).isSome = right x := by
  unfold oV
  cases right x <;> rfl
theorem oB_some (x : List Nat) : (oB x).isSome = decide (x.length ≤ 65536) := by
  unfold oB
  by_cases h : 65536 < x.length
  · rw [if_pos h, decide_eq_false (by omega)]; rfl
  · rw [if_neg h, decide_eq_true (by omega)]; rfl
theorem mbody_eq (m : Ms) : mbody m = if mright m = true then some (menc m) else none := by
  unfold mbody
  rw [plst_p oN gN (fun _ => true) oN_eq oN_some]
  by_cases c1 : (decide (m.nums.length ≤ 64) && (m.nums.all fun _ => true) && decide (([m.k] ++ varint m.nums.length ++ m.nums.flatMap gN).length ≤ 1048572)) = true
  · rw [if_pos c1]
    dsimp only
    rw [plst_p oV (enc 16) right oV_eq oV_some]
    by_cases c2 : (decide (m.vals.length ≤ 64) && m.vals.all right && decide (([m.k] ++ varint m.nums.length ++ m.nums.flatMap gN ++ varint m.vals.length ++ m.vals.flatMap (enc 16)).length ≤ 1048572)) = true
    · rw [if_pos c2]
      dsimp only
      rw [plst_p oB gB (fun x => decide (x.length ≤ 65536)) oB_eq oB_some]
      have e : (decide (m.blobs.length ≤ 16) && (m.blobs.all fun x => decide (x.length ≤ 65536)) && decide ((menc m).length ≤ 1048572)) = mright m := by
        rw [Bool.eq_iff_iff, mright_iff]
        simp only [Bool.and_eq_true, decide_eq_true_eq, List.all_eq_true] at c1 c2 ⊢
        constructor
        · rintro ⟨⟨h1, h2⟩, h3⟩
          exact ⟨c1.1.1, c2.1.1, c2.1.2, h1, h2, by omega⟩
        · rintro ⟨h1, h2, h3, h4, h5, h6⟩
          exact ⟨⟨h4, h5⟩, by omega⟩
      rw [← e]
      rfl
    · rw [if_neg c2]
      dsimp only
      rw [if_neg]
      intro h
      obtain ⟨h1, h2, h3, h4, h5, h6⟩ := mright_iff.1 h
      apply c2
      simp only [Bool.and_eq_true, decide_eq_true_eq, List.all_eq_true]
      refine ⟨⟨h2, h3⟩, ?_⟩
      unfold menc at h6
      rw [List.length_append, List.length_append] at h6
      omega
  · rw [if_neg c1]
    dsimp only
    rw [if_neg]
    intro h
    obtain ⟨h1, h2, h3, h4, h5, h6⟩ := mright_iff.1 h
    apply c1
    simp only [Bool.and_eq_true, decide_eq_true_eq, List.all_eq_true]
    refine ⟨⟨h1, fun _ _ => trivial⟩, ?_⟩
    unfold menc at h6
    rw [List.length_append, List.length_append, List.length_append, List.length_append] at h6
    omega
theorem MRep.lists {w : World} {S : Nat → Prop} {m : Ms} {k : Value} {An Av Ab : Option Addr} {nn cn nv cv nb cb : Nat} (h : MRep w S (.agg #[k, .slice An nn cn, .slice Av nv cv, .slice Ab nb cb]) m) : AtS w S An (zv m.nums) ∧ RepsS w S Av m.vals ∧ BlkS w S Ab m.blobs := by
  obtain ⟨-, An', cn', Av', cv', Ab', cb', e, -, -, -, h1, h2, h3⟩ := h
  simp at e
  obtain ⟨-, ⟨rfl, -, -⟩, ⟨rfl, -, -⟩, rfl, -, -⟩ := e
  exact ⟨h1, h2, h3⟩
theorem MRep.under {w w' : World} {B B' : Nat} {v : Value} {m : Ms} (h : MRep w (fun b => b < B) v m) (hb : Below B w w') (hB : B ≤ B') : MRep w' (fun b => b < B') v m :=
  h.keep (fun _ hp => hb.cell hp) (fun _ h => Nat.lt_of_lt_of_le h hB)

set_option maxRecDepth 100000 in
set_option maxHeartbeats 1600000 in
theorem body_any (m : Ms) (v : Value) (w : World) (h : MRep w (fun b => b < w.heap.size) v m) : Calls Try.prog 75 #[v] w (OutPl (mbody m) w.heap.size w) := by
  have h0 := Lib.hid h
  obtain ⟨hok, An, cn, Av, cv, Ab, cb, rfl, -, -, -, -, -, -⟩ := h
  obtain ⟨hk, hnb, -, -⟩ := hok
  obtain ⟨box, hbox⟩ : ∃ o : Obj, o = .cells #[.int .u8 (m.k : Int), .slice An m.nums.length cn, .slice Av m.vals.length cv, .slice Ab m.blobs.length cb] 26 := ⟨_, rfl⟩
  have q0 := heap_new w box
  obtain ⟨row, hrow⟩ : ∃ o : Obj, o = .cells #[.int .u8 (m.k : Int)] 5 := ⟨_, rfl⟩
  have hsz : (w.alloc box).heap.size = w.heap.size + 1 := by simp
  have hbW := (Below.refl w.heap.size w).alloc (Nat.le_refl _) box
  have hbX := (Below.refl (w.alloc box).heap.size (w.alloc box)).alloc (Nat.le_refl _) row
  have q1 := heap_below q0 hbX
  have hbwX : Below w.heap.size w ((w.alloc box).alloc row) := hbW.trans (hbX.mono hbW.size)
  have hownX : Own ((w.alloc box).alloc row) (w.heap.size + 1) (.slice (some ⟨w.heap.size + 1, 0, none⟩) 1 1) [m.k] := by
    have := World.ownsRow_lit (base := w.heap.size + 1) (e := 5) (size := 1) (w.alloc box) #[.int .u8 (m.k : Int)] 1 (by omega) (by unfold maxLen; omega) rfl
    rw [hsz, ← hrow] at this
    exact this
  have hrX := h0.out.under hbwX (show w.heap.size ≤ w.heap.size + 1 by omega)
  have hcall := putnums_any (w.heap.size + 1) _ [m.k] An cn m.nums _ hownX (by intro x hx; simp at hx; omega) (by simp) (by simp) (hrX.lists.1.at_ (fun _ h => h)) hnb
  have HC1 := Lib.hid hcall
  have HM : Hid (mbody m = match plst oN 64 [m.k] m.nums with
    | none => none
    | some l1 => match plst oV 64 l1 m.vals with
      | none => none
      | some l2 => plst oB 16 l2 m.blobs) := rfl
  clear hcall hownX hnb hk
  obtain ⟨⟨d0, d1, d2, d3⟩, -⟩ := box4f (by rw [hbox] at q0; exact q0)
  obtain ⟨⟨f0, f1, f2, f3⟩, -⟩ := box4f (by rw [hbox] at q1; exact q1)
  subst hbox hrow
  go_enter Try.func75, Try.ntmps75
  go_wp2_with fail
  refine HC1.out.mono ?_
  rintro e X1 ⟨hb1, hP1⟩
  have hbw1 : Below w.heap.size w X1 := hbwX.trans (hb1.mono (by omega))
  have q2 := (hb1.block w.heap.size (by omega)).trans q1
  obtain ⟨⟨d0, d1, d2, d3⟩, -⟩ := box4f q2
  clear hb1 q1 hbX hbW hbwX hrX HC1 q0 f0 f1 f2 f3
  cases h1 : plst oN 64 [m.k] m.nums with
  | none =>
    rw [h1] at hP1 HM
    obtain ⟨u, rfl⟩ := hP1
    go_wp2_with fail
    refine bodyPost_ret (v := .tuple #[.slice none 0 0, .bool false]) (by simp [results, Try.results75, go_sem]) rfl ?_
    refine ⟨hbw1, ?_⟩
    rw [show mbody m = none from HM.out]
    exact ⟨_, rfl⟩
  | some l1 =>
    rw [h1] at hP1 HM
    obtain ⟨u, rfl, hown1, h18⟩ := hP1
    have hs1 := lt_heap q2
    have hc2 := putvals_any (w.heap.size + 1) u l1 Av cv m.vals X1 hown1 h18 (plst_len h1) (by omega) (h0.out.under hbw1 (show w.heap.size ≤ w.heap.size + 1 by omega)).lists.2.1
    have HC2 := Lib.hid hc2
    clear hc2 hown1 h18 h1
    go_wp2_with fail
    refine HC2.out.mono ?_
    rintro e X2 ⟨hb2, hP2⟩
    have hbw2 : Below w.heap.size w X2 := hbw1.trans (hb2.mono (by omega))
    have q3 := (hb2.block w.heap.size (by omega)).trans q2
    obtain ⟨⟨d0, d1, d2, d3⟩, -⟩ := box4f q3
    clear hb2 q2 HC2 hbw1
    cases h2 : plst oV 64 l1 m.vals with
    | none =>
      rw [h2] at hP2
      have HM : Hid (mbody m = none) := by
        show _ = _
        have := HM.out
        rw [this, h2]
      obtain ⟨u2, rfl⟩ := hP2
      go_wp2_with fail
      refine bodyPost_ret (v := .tuple #[.slice none 0 0, .bool false]) (by simp [results, Try.results75, go_sem]) rfl ?_
      refine ⟨hbw2, ?_⟩
      rw [HM.out]
      exact ⟨_, rfl⟩
    | some l2 =>
      rw [h2] at hP2
      have HM : Hid (mbody m = plst oB 16 l2 m.blobs) := by
        show _ = _
        have := HM.out
        rw [this, h2]
      obtain ⟨u2, rfl, hown2, h28⟩ := hP2
      have hs2 := lt_heap q3
      have hc3 := putblobs_any (w.heap.size + 1) u2 l2 Ab cb m.blobs X2 hown2 h28 (plst_len h2) (by omega) ((h0.out.under hbw2 (show w.heap.size ≤ w.heap.size + 1 by omega)).lists.2.2)
      have HC3 := Lib.hid hc3
      clear hc3 hown2 h28 h2
      go_wp2_with fail
      refine HC3.out.mono ?_
      rintro e X3 ⟨hb3, hP3⟩
      have hbw3 : Below w.heap.size w X3 := hbw2.trans (hb3.mono (by omega))
      clear hb3 q3 HC3 hbw2
      cases h3 : plst oB 16 l2 m.blobs with
      | none =>
        rw [h3] at hP3 HM
        obtain ⟨u3, rfl⟩ := hP3
        go_wp2_with fail
        refine bodyPost_ret (v := .tuple #[u3, .bool false]) (by simp [results, Try.results75, go_sem]) rfl ?_
        refine ⟨hbw3, ?_⟩
        rw [HM.out]
        exact ⟨_, rfl⟩
      | some l3 =>
        rw [h3] at hP3 HM
        obtain ⟨u3, rfl, hown3, h38⟩ := hP3
        have hown4 := hown3.mono (show w.heap.size ≤ w.heap.size + 1 by omega)
        clear hown3
        go_wp2_with fail
        refine bodyPost_ret (v := .tuple #[u3, .bool true]) (by simp [results, Try.results75, go_sem]) rfl ?_
        refine ⟨hbw3, ?_⟩
        rw [HM.out]
        exact ⟨_, rfl, hown4, h38⟩

/-- What Put answers. -/
def OutPm (m : Ms) (w : World) (e : Ending) (w' : World) : Prop := Below w.heap.size w w' ∧
  (mright m = false → e = .returned (.tuple #[.slice none 0 0, .int .i64 14])) ∧
  (mright m = true → ∃ u, e = .returned (.tuple #[u, .int .i64 0]) ∧ Own w' w.heap.size u (menc m ++ be4 (crcN (menc m))) ∧ Bs w' u (menc m ++ be4 (crcN (menc m))))
theorem mbody_no {m : Ms} (h : mright m = false) : mbody m = none := by
  rw [mbody_eq, h]
  rfl
theorem mbody_yes {m : Ms} (h : mright m = true) : mbody m = some (menc m) := by
  rw [mbody_eq, h]
  rfl
set_option maxRecDepth 100000 in
set_option maxHeartbeats 1600000 in
theorem putm_any (m : Ms) (v : Value) (w : World) (h : MRep w (fun b => b < w.heap.size) v m) : Calls Try.prog 13 #[v] w (OutPm m w) := by
  have h0 := Lib.hid h
  obtain ⟨hok, An, cn, Av, cv, Ab, cb, rfl, -, -, -, -, -, -⟩ := h
  clear hok
  obtain ⟨box, hbox⟩ : ∃ o : Obj, o = .cells #[.int .u8 (m.k : Int), .slice An m.nums.length cn, .slice Av m.vals.length cv, .slice Ab m.blobs.length cb] 26 := ⟨_, rfl⟩
  have q0 := heap_new w box
  have hbW := (Below.refl w.heap.size w).alloc (Nat.le_refl _) box
  have hcall := body_any m _ _ (h0.out.under hbW (show w.heap.size ≤ (w.alloc box).heap.size from hbW.size))
  have HC := Lib.hid hcall
  clear hcall
  obtain ⟨⟨d0, d1, d2, d3⟩, -⟩ := box4f (by rw [hbox] at q0; exact q0)
  subst hbox
  clear q0
  cases hr : mright m with
  | false =>
    have HB := Lib.hid (mbody_no hr)
    have HR := Lib.hid hr
    clear hr
    go_enter Try.func13, Try.ntmps13
    go_wp2_with fail
    refine HC.out.mono ?_
    rintro e X1 ⟨hb1, hP1⟩
    rw [HB.out] at hP1
    obtain ⟨u, rfl⟩ := hP1
    have hbw1 := nxt hbW hb1
    clear hb1
    go_wp2_with fail
    refine bodyPost_ret (v := .tuple #[.slice none 0 0, .int .i64 14]) (by simp [results, Try.results13, go_sem]) rfl ?_
    exact ⟨hbw1, fun _ => rfl, fun h => by rw [HR.out] at h; cases h⟩
  | true =>
    have HB := Lib.hid (mbody_yes hr)
    have hlen : (menc m).length ≤ 1048576 := by have := (mright_iff.1 hr).2.2.2.2.2; omega
    have HR := Lib.hid hr
    clear hr
    go_enter Try.func13, Try.ntmps13
    go_wp2_with fail
    refine HC.out.mono ?_
    rintro e X1 ⟨hb1, hP1⟩
    rw [HB.out] at hP1
    obtain ⟨u, rfl, hown1, h18⟩ := hP1
    have hbw1 := nxt hbW hb1
    have hbs := Bs.of_own hown1 h18
    clear hb1 hown1 h18
    go_wp2_with fail
    refine (seal_bs _ _ _ hbs (by omega)).mono ?_
    rintro e X2 ⟨u2, rfl, hown2, hbs2, hb2⟩
    have hown3 := hown2.mono hbw1.size
    have hbw2 := nxt hbw1 hb2
    clear hown2 hb2 hbs
    go_wp2_with fail
    refine bodyPost_ret (v := .tuple #[u2, .int .i64 0]) (by simp [results, Try.results13, go_sem]) rfl ?_
    exact ⟨hbw2, (fun h => by rw [HR.out] at h; cases h), fun _ => ⟨u2, rfl, hown3, hbs2⟩⟩
set_option maxRecDepth 100000 in
set_option maxHeartbeats 1600000 in
theorem rightm_any (m : Ms) (v : Value) (w : World) (h : MRep w (fun b => b < w.heap.size) v m) : Calls Try.prog 18 #[v] w fun e w' => e = .returned (.bool (mright m)) ∧ Below w.heap.size w w' := by
  have h0 := Lib.hid h
  obtain ⟨hok, An, cn, Av, cv, Ab, cb, rfl, -, -, -, -, -, -⟩ := h
  clear hok
  obtain ⟨box, hbox⟩ : ∃ o : Obj, o = .cells #[.int .u8 (m.k : Int), .slice An m.nums.length cn, .slice Av m.vals.length cv, .slice Ab m.blobs.length cb] 26 := ⟨_, rfl⟩
  have q0 := heap_new w box
  have hbW := (Below.refl w.heap.size w).alloc (Nat.le_refl _) box
  have hcall := body_any m _ _ (h0.out.under hbW (show w.heap.size ≤ (w.alloc box).heap.size from hbW.size))
  have HC := Lib.hid hcall
  clear hcall
  obtain ⟨⟨d0, d1, d2, d3⟩, -⟩ := box4f (by rw [hbox] at q0; exact q0)
  subst hbox
  clear q0
  cases hr : mright m with
  | false =>
    have HB := Lib.hid (mbody_no hr)
    clear hr
    go_enter Try.func18, Try.ntmps18
    go_wp2_with fail
    refine HC.out.mono ?_
    rintro e X1 ⟨hb1, hP1⟩
    rw [HB.out] at hP1
    obtain ⟨u, rfl⟩ := hP1
    have hbw1 := nxt hbW hb1
    clear hb1
    go_wp2_with fail
    go_ret
    exact ⟨rfl, hbw1⟩
  | true =>
    have HB := Lib.hid (mbody_yes hr)
    clear hr
    go_enter Try.func18, Try.ntmps18
    go_wp2_with fail
    refine HC.out.mono ?_
    rintro e X1 ⟨hb1, hP1⟩
    rw [HB.out] at hP1
    obtain ⟨u, rfl, -, -⟩ := hP1
    have hbw1 := nxt hbW hb1
    clear hb1
    go_wp2_with fail
    go_ret
    exact ⟨rfl, hbw1⟩
end Go.Proofs.Ytjcefnlidophoaa
