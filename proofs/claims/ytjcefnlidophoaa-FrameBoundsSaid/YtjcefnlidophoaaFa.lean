/- Messages and packets, and their bytes. Plain mathematics. -/
import Derived.Test.YtjcefnlidophoaaGd
import Derived.Test.YtjcefnlidophoaaFa0
namespace Go.Proofs.Ytjcefnlidophoaa

/-- A message. -/
structure Ms where
  k : Nat
  nums : List Int
  vals : List Va
  blobs : List (List Nat)
def gN (n : Int) : List Nat := varint (zz n)
/-- Its bytes, ahead of their sum. -/
def menc (m : Ms) : List Nat := [m.k] ++ varint m.nums.length ++ m.nums.flatMap gN ++ varint m.vals.length ++ m.vals.flatMap (enc 16) ++ varint m.blobs.length ++ m.blobs.flatMap gB
/-- Numbers and bytes are such as there are. -/
def MOk (m : Ms) : Prop := m.k < 256 ∧ (∀ n ∈ m.nums, -9223372036854775808 ≤ n ∧ n ≤ 9223372036854775807) ∧ (∀ v ∈ m.vals, Ok 16 v) ∧ ∀ l ∈ m.blobs, ∀ x ∈ l, x < 256
/-- Is a message right? -/
def mright (m : Ms) : Bool := decide (m.nums.length ≤ 64) && decide (m.vals.length ≤ 64) && m.vals.all right && decide (m.blobs.length ≤ 16) && m.blobs.all (fun l => decide (l.length ≤ 65536)) && decide ((menc m).length + 4 ≤ 1048576)
def fN (b : List Nat) (at_ : Nat) : Except Nat (Int × Nat) := if (gu b at_).2.2 ≠ 0 then .error (gu b at_).2.2 else .ok (un (gu b at_).1, (gu b at_).2.1)
def fV (b : List Nat) (at_ : Nat) : Except Nat (Va × Nat) := match dec b 16 at_ 256 with
  | .error e => .error e
  | .ok (t, nx, _) => .ok (t, nx)
def fB (b : List Nat) (at_ : Nat) : Except Nat (List Nat × Nat) := if (gb b at_ 65536).2.2 ≠ 0 then .error (gb b at_ 65536).2.2 else .ok ((gb b at_ 65536).1, (gb b at_ 65536).2.1)
/-- The message whose bytes b are, ahead of their sum. -/
def mdec (b : List Nat) : Except Nat Ms :=
  if b = [] then .error 11 else
  match lst b 64 (fN b) 1 with
  | .error e => .error e
  | .ok (ns, a1) => match lst b 64 (fV b) a1 with
    | .error e => .error e
    | .ok (vs, a2) => match lst b 16 (fB b) a2 with
      | .error e => .error e
      | .ok (bs, a3) => if a3 < b.length then .error 10 else .ok ⟨b.getD 0 0, ns, vs, bs⟩
theorem mright_iff {m : Ms} : mright m = true ↔ m.nums.length ≤ 64 ∧ m.vals.length ≤ 64 ∧ (∀ v ∈ m.vals, right v = true) ∧ m.blobs.length ≤ 16 ∧ (∀ l ∈ m.blobs, l.length ≤ 65536) ∧ (menc m).length + 4 ≤ 1048576 := by
  unfold mright
  simp only [Bool.and_eq_true, decide_eq_true_eq, List.all_eq_true]
  constructor
  · rintro ⟨⟨⟨⟨⟨h1, h2⟩, h3⟩, h4⟩, h5⟩, h6⟩
    exact ⟨h1, h2, h3, h4, h5, h6⟩
  · rintro ⟨h1, h2, h3, h4, h5, h6⟩
    exact ⟨⟨⟨⟨⟨h1, h2⟩, h3⟩, h4⟩, h5⟩, h6⟩
theorem fN_put (b : List Nat) (n : Int) (h0 : -9223372036854775808 ≤ n) (h1 : n ≤ 9223372036854775807) (p q : List Nat) (hb : b = p ++ gN n ++ q) : fN b p.length = .ok (n, p.length + (gN n).length) := by
  have hg := gu_at p (zz n) q (zz_lt n h0 h1) p.length rfl
  unfold fN gN at *
  rw [hb, hg]
  dsimp only
  rw [if_neg (by simp), un_zz]
theorem fV_put (b : List Nat) (v : Va) (hr : right v = true) (ok : Ok 16 v) (p q : List Nat) (hb : b = p ++ enc 16 v ++ q) : fV b p.length = .ok (v, p.length + (enc 16 v).length) := by
  obtain ⟨m, hm⟩ := right_rgt hr
  unfold fV
  rw [dec_enc 16 b v p q 256 m hb (by omega) hm ok]
theorem fB_put (b : List Nat) (l : List Nat) (hl : l.length ≤ 65536) (p q : List Nat) (hb : b = p ++ gB l ++ q) : fB b p.length = .ok (l, p.length + (gB l).length) := by
  have hg := gb_at p l q 65536 (by omega) (by omega) p.length rfl
  unfold fB gB at *
  rw [show p ++ varint l.length ++ l ++ q = b by rw [hb]; simp] at hg
  rw [hg]
  dsimp only
  rw [if_neg (by simp), List.length_append, Nat.add_assoc]
theorem fN_back (b : List Nat) (h8 : ∀ x ∈ b, x < 256) (at_ : Nat) (n : Int) (nx : Nat) (hat : at_ ≤ b.length) (h : fN b at_ = .ok (n, nx)) : (-9223372036854775808 ≤ n ∧ n ≤ 9223372036854775807) ∧ at_ ≤ nx ∧ nx ≤ b.length ∧ (b.drop at_).take (nx - at_) = gN n := by
  unfold fN at h
  split at h
  · cases h
  · rename_i h0
    simp only [Except.ok.injEq, Prod.mk.injEq] at h
    obtain ⟨rfl, rfl⟩ := h
    obtain ⟨m1, m2, m3, m4⟩ := gu_mid b h8 at_ hat (by omega)
    refine ⟨un_bounds _ m4, by omega, m2, ?_⟩
    unfold gN
    rw [zz_un, m3]
theorem fV_back (b : List Nat) (h8 : ∀ x ∈ b, x < 256) (at_ : Nat) (v : Va) (nx : Nat) (hat : at_ ≤ b.length) (h : fV b at_ = .ok (v, nx)) : (right v = true ∧ Ok 16 v) ∧ at_ ≤ nx ∧ nx ≤ b.length ∧ (b.drop at_).take (nx - at_) = enc 16 v := by
  unfold fV at h
  split at h
  · cases h
  · rename_i t n2 m hd
    simp only [Except.ok.injEq, Prod.mk.injEq] at h
    obtain ⟨rfl, rfl⟩ := h
    obtain ⟨d1, d2, d3, d4, d5⟩ := dec_back b h8 16 at_ 256 _ _ m hat hd
    exact ⟨⟨by unfold right; rw [d1]; rfl, d2⟩, d3, d4, d5⟩
theorem fB_back (b : List Nat) (h8 : ∀ x ∈ b, x < 256) (at_ : Nat) (l : List Nat) (nx : Nat) (hat : at_ ≤ b.length) (h : fB b at_ = .ok (l, nx)) : (l.length ≤ 65536 ∧ ∀ x ∈ l, x < 256) ∧ at_ ≤ nx ∧ nx ≤ b.length ∧ (b.drop at_).take (nx - at_) = gB l := by
  unfold fB at h
  split at h
  · cases h
  · rename_i h0
    simp only [Except.ok.injEq, Prod.mk.injEq] at h
    obtain ⟨rfl, rfl⟩ := h
    obtain ⟨m1, m2, m3, m4⟩ := gb_ok b h8 at_ hat 65536 (by omega)
    refine ⟨⟨by omega, fun x hx => ?_⟩, by omega, m2, m3⟩
    have : x ∈ (b.drop at_).take ((gb b at_ 65536).2.1 - at_) := by
      rw [m3]
      exact List.mem_append_right _ hx
    exact h8 x (List.mem_of_mem_drop (List.mem_of_mem_take this))
/-- What is put is got. -/
theorem mdec_menc {m : Ms} (hr : mright m = true) (ok : MOk m) : mdec (menc m) = .ok m := by
  obtain ⟨h1, h2, h3, h4, h5, _⟩ := mright_iff.1 hr
  obtain ⟨_, o2, o3, _⟩ := ok
  generalize hb : menc m = b
  have hb' := hb
  unfold menc at hb
  have e1 := lst_put b 64 (fN b) gN m.nums [m.k] (varint m.vals.length ++ m.vals.flatMap (enc 16) ++ varint m.blobs.length ++ m.blobs.flatMap gB) h1 (by omega) (by rw [← hb]; simp) (fun n hn p q h => fN_put b n (o2 n hn).1 (o2 n hn).2 p q h)
  have e2 := lst_put b 64 (fV b) (enc 16) m.vals ([m.k] ++ varint m.nums.length ++ m.nums.flatMap gN) (varint m.blobs.length ++ m.blobs.flatMap gB) h2 (by omega) (by rw [← hb]; simp) (fun v hv p q h => fV_put b v (h3 v hv) (o3 v hv) p q h)
  have e3 := lst_put b 16 (fB b) gB m.blobs ([m.k] ++ varint m.nums.length ++ m.nums.flatMap gN ++ varint m.vals.length ++ m.vals.flatMap (enc 16)) [] h4 (by omega) (by rw [← hb]; simp) (fun l hl p q h => fB_put b l (h5 l hl) p q h)
  have hne : b ≠ [] := by rw [← hb]; simp
  have hk : b.getD 0 0 = m.k := by rw [← hb]; rfl
  unfold mdec
  rw [if_neg hne, show lst b 64 (fN b) 1 = _ from e1]
  dsimp only
  rw [e2]
  dsimp only
  rw [e3]
  dsimp only
  rw [hb, if_neg (Nat.lt_irrefl _), hk]
/-- What is got is right (but for its length, which is the bytes'), and put again is the same bytes. -/
theorem mdec_back {b : List Nat} (h8 : ∀ x ∈ b, x < 256) {m : Ms} (h : mdec b = .ok m) : menc m = b ∧ MOk m ∧ m.nums.length ≤ 64 ∧ m.vals.length ≤ 64 ∧ (∀ v ∈ m.vals, right v = true) ∧ m.blobs.length ≤ 16 ∧ ∀ l ∈ m.blobs, l.length ≤ 65536 := by
  unfold mdec at h
  split at h
  · cases h
  · rename_i hne
    have hb1 : 1 ≤ b.length := List.length_pos_iff.2 hne
    split at h
    · cases h
    · rename_i ns a1 e1
      obtain ⟨p1, p2, p3, p4, p5⟩ := lst_back b h8 64 (fN b) gN _ (fN_back b h8) 1 ns a1 hb1 e1
      split at h
      · cases h
      · rename_i vs a2 e2
        obtain ⟨q1, q2, q3, q4, q5⟩ := lst_back b h8 64 (fV b) (enc 16) _ (fV_back b h8) a1 vs a2 p4 e2
        split at h
        · cases h
        · rename_i bs a3 e3
          obtain ⟨r1, r2, r3, r4, r5⟩ := lst_back b h8 16 (fB b) gB _ (fB_back b h8) a2 bs a3 q4 e3
          split at h
          · cases h
          · rename_i hlt
            injection h with h
            subst h
            have ha : a3 = b.length := by omega
            refine ⟨?_, ⟨?_, p2, fun v hv => (q2 v hv).2, fun l hl => (r2 l hl).2⟩, p1, q1, fun v hv => (q2 v hv).1, r1, fun l hl => (r2 l hl).1⟩
            · have f0 : b = (b.drop 0).take 1 ++ (b.drop 1).take (a1 - 1) ++ (b.drop a1).take (a2 - a1) ++ (b.drop a2).take (a3 - a2) := by
                have s1 := mid_append b 0 1 b.length (by omega) hb1
                have s2 := mid_append b 1 a1 b.length p3 p4
                have s3 := mid_append b a1 a2 b.length q3 q4
                rw [← ha] at s1 s2 s3
                have s0 : (b.drop 0).take (a3 - 0) = b := by rw [ha]; simp
                refine s0.symm.trans ?_
                rw [s1, s2, s3]
                simp only [List.append_assoc, Nat.sub_zero]
              unfold menc
              rw [p5, q5, r5] at f0
              have hk : (b.drop 0).take 1 = [b.getD 0 0] := by
                cases b with
                | nil => exact absurd rfl hne
                | cons x r => rfl
              rw [hk] at f0
              dsimp only
              conv => rhs; rw [f0]
              simp
            · have : b.getD 0 0 ∈ b := by
                cases b with
                | nil => exact absurd rfl hne
                | cons x r => simp
              exact h8 _ this
end Go.Proofs.Ytjcefnlidophoaa
