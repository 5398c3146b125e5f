/- What the laws of droverlaw02 share: Get's answer in one form; errors are none that is OK. -/
import Derived.Test.YtfobmlicmbelnaaDoorGetAll
import Derived.Test.YtfobmlicmbelnaaDoorPut
namespace Go.Proofs.YtfobmlicmbelnaaDoor
open Go.RowKit

theorem dlf_err0 {b : List Nat} {a er : Nat} (h : dlf b a = .error er) : er ≠ 0 := by
  intro h0
  subst h0
  unfold dlf at h
  split at h
  · split at h
    · cases h
    · injection h with h; omega
  · split at h
    · split at h
      · injection h with h; omega
      · split at h
        · injection h with h; omega
        · cases h
    · split at h
      · split at h
        · cases h
        · injection h with h; omega
      · split at h
        · split at h
          · split at h
            · injection h with h; omega
            · cases h
          · injection h with h; omega
        · injection h with h; omega
theorem decL_err0 {f : Nat → Nat → Except Nat (Va × Nat × Nat)} (hf : ∀ a m er, f a m = .error er → er ≠ 0) : ∀ (c a m er : Nat), decL f c a m = .error er → er ≠ 0
  | 0, a, m, er, h => by simp [decL] at h
  | c + 1, a, m, er, h => by
    rw [decL] at h
    split at h
    · rename_i e he
      injection h with h
      exact h ▸ hf _ _ _ he
    · rename_i x he
      split at h
      · rename_i e he2
        injection h with h
        exact h ▸ decL_err0 hf c _ _ _ he2
      · cases h
theorem dec_err (b : List Nat) : ∀ (L a m er : Nat), dec b L a m = .error er → er ≠ 0
  | 0, a, m, er, h => by simp [dec] at h; omega
  | L + 1, a, 0, er, h => by simp [dec] at h; omega
  | L + 1, a, m + 1, er, h => by
    rw [dec] at h
    split at h
    · injection h with h; omega
    · split at h
      · split at h
        · rename_i hne
          injection h with h
          exact h ▸ hne
        · split at h
          · injection h with h; omega
          · split at h
            · rename_i e he
              injection h with h
              exact h ▸ decL_err0 (fun a m er h => dec_err b L a m er h) _ _ _ _ he
            · cases h
      · split at h
        · rename_i e he
          injection h with h
          exact h ▸ dlf_err0 he
        · cases h

theorem getR_err {l : List Nat} {a : Int} {er : Nat} (h : getR l a = .error er) : er ≠ 0 := by
  unfold getR at h
  split at h
  · injection h with h; omega
  · exact dec_err _ _ _ _ _ h
/-- Get's answer: an error and nothing, or a value in new memory. -/
def GetP (r : Except Nat (Va × Nat × Nat)) (w w' : World) (x : Value) (nx er : Nat) : Prop :=
  (er ≠ 0 ∧ r = .error er ∧ nx = 0 ∧ x = zeroV) ∨ (er = 0 ∧ ∃ t m, r = .ok (t, nx, m) ∧ RepS w' (fun b => w.heap.size ≤ b ∧ b < w'.heap.size) x t)
theorem get_all (v : Value) (l : List Nat) (at_ : Int) (w : World) (h : Bs w v l) (hn : l.length ≤ 1099511627776) :
    Calls Tryd.prog 22 #[v, .int .i64 at_] w fun e w' => ∃ (zk zn : Int) (zs : ByteArray) (zA : Option Addr) (zl zc nx er : Nat), e = .returned (.tuple #[.agg #[.int .u8 zk, .int .i64 zn, .string zs, .slice zA zl zc], .int .i64 ((nx : Nat) : Int), .int .i64 ((er : Nat) : Int)]) ∧ Below w.heap.size w w' ∧ GetP (getR l at_) w w' (.agg #[.int .u8 zk, .int .i64 zn, .string zs, .slice zA zl zc]) nx er := by
  refine (get_any v l at_ w h hn).mono ?_
  intro e w' ho
  cases hr : getR l at_ with
  | error er =>
    rw [hr] at ho
    obtain ⟨hb, rfl⟩ := ho
    exact ⟨_, _, _, _, _, _, 0, er, rfl, hb, .inl ⟨getR_err hr, rfl, rfl, rfl⟩⟩
  | ok r =>
    obtain ⟨t, nx, m⟩ := r
    rw [hr] at ho
    obtain ⟨hb, x, rfl, hx⟩ := ho
    obtain ⟨kt, nt, st, lt⟩ := t
    obtain ⟨z0, z1, z2, z3, rfl⟩ := hx.form
    obtain ⟨A, c, rfl, rfl, rfl, rfl, -⟩ := hx.parts
    exact ⟨_, _, _, _, _, _, nx, 0, rfl, hb, .inr ⟨rfl, _, m, rfl, hx⟩⟩
theorem getR_back {l : List Nat} (h8 : ∀ x ∈ l, x < 256) {t : Va} {nx m : Nat} (h : getR l 0 = .ok (t, nx, m)) : right t = true ∧ Ok 16 t ∧ 1 ≤ nx ∧ nx ≤ l.length ∧ l.take nx = enc 16 t := by
  unfold getR at h
  rw [if_neg (by omega)] at h
  obtain ⟨h1, h2, _, h4, h5⟩ := dec_back l h8 16 0 256 t nx m (Nat.zero_le _) h
  have h6 : l.take nx = enc 16 t := by simpa using h5
  refine ⟨by unfold right; rw [h1]; rfl, h2, ?_, h4, h6⟩
  rcases Nat.eq_zero_or_pos nx with h0 | h0
  · subst h0
    exact absurd h6.symm (by simpa using enc_pos 15 t)
  · exact h0
theorem enc_bytes16 : ∀ (L : Nat) (v : Va) (m m' : Nat), m ≤ 256 → rgt L v m = some m' → Ok L v → ∀ x ∈ enc L v, x < 256
  | 0, _, _, _, _, h, _, _, _ => by simp [rgt] at h
  | L + 1, .mk k n s l, m, m', hm, h, ok, x, hx => by
    obtain ⟨hk8, h0, h1, hs8, hl8⟩ := ok
    obtain ⟨m1, rfl, hc⟩ := rgt_cases h
    rcases hc with ⟨h1', h2, rfl⟩ | ⟨rfl, rfl, rfl, h4⟩
    · obtain ⟨rfl, hc⟩ := lf_cases h2
      rcases hc with ⟨rfl, rfl⟩ | ⟨rfl, rfl, hc⟩ | ⟨rfl, _, hs⟩ | ⟨rfl, rfl, _⟩
      · simp [enc] at hx
        rcases hx with rfl | hx
        · omega
        · exact varint_bytes _ (zz_lt n h0 h1) x hx
      · simp [enc] at hx
        rcases hx with rfl | rfl
        · omega
        · rcases hc with rfl | rfl <;> decide
      · simp [enc] at hx
        rcases hx with rfl | hx | hx
        · omega
        · exact varint_bytes _ (by omega) x hx
        · exact hs8 x hx
      · simp [enc] at hx
        rcases hx with rfl | hx
        · omega
        · exact varint_bytes _ (zz_lt n h0 h1) x hx
    · have hlen := foldlM_len l m1 m' h4
      rw [enc_tuple] at hx
      simp at hx
      rcases hx with rfl | hx | ⟨v, hv, hx⟩
      · omega
      · exact varint_bytes _ (by omega) x hx
      · have hall : ∀ (l : List Va) (m m' : Nat), m ≤ 256 → l.foldlM (fun m v => rgt L v m) m = some m' → ∀ v ∈ l, ∃ a b, a ≤ 256 ∧ rgt L v a = some b := by
          intro l
          induction l with
          | nil => intro _ _ _ _ v hv; simp at hv
          | cons y l ih =>
            intro m m' hm h v hv
            rw [List.foldlM_cons] at h
            cases hy : rgt L y m with
            | none => rw [hy] at h; simp at h
            | some m1 =>
              rw [hy] at h
              rcases List.mem_cons.1 hv with rfl | hv
              · exact ⟨m, m1, hm, hy⟩
              · exact ih m1 m' (by have := (rgt_rt L _ m m1 hy).2; omega) h v hv
        obtain ⟨a, b, ha, hab⟩ := hall l m1 m' (by omega) h4 v hv
        exact enc_bytes16 L v a b ha hab (hl8 v hv) x hx
theorem enc_bytes {t : Va} (hr : right t = true) (ok : Ok 16 t) : ∀ x ∈ enc 16 t, x < 256 := by
  obtain ⟨m, hm⟩ := right_rgt hr
  exact enc_bytes16 16 t 256 m (by omega) hm ok
theorem getR_put (p : List Nat) {t : Va} (q : List Nat) (hr : right t = true) (ok : Ok 16 t) : ∃ m, getR (p ++ enc 16 t ++ q) (p.length : Int) = .ok (t, p.length + (enc 16 t).length, m) := by
  obtain ⟨m, hm⟩ := right_rgt hr
  refine ⟨m, ?_⟩
  unfold getR
  rw [if_neg (by simp; omega)]
  exact dec_enc 16 _ t p q 256 m rfl (by omega) hm ok
end Go.Proofs.YtfobmlicmbelnaaDoor
