/- Texts Za, Zb, Zc of this seat in one: see each part. -/
import Derived.Deep.LoopGhost
import Derived.Deep.QuietTactic
import Derived.Deep.RegionHeld3
import Derived.Test.YteacmanbiamhoaaGreatDoorTa
import Derived.Test.YteacmanbiamhoaaGreatDoorTb
namespace Go.Proofs.YteacmanbiamhoaaGreatDoor
set_option linter.unusedVariables false

mutual
def exB : Ex → Ex → Bool
  | .mk k s n l, .mk k' s' n' l' => k == k' && s == s' && n == n' && exsB l l'
def exsB : List Ex → List Ex → Bool
  | [], [] => true
  | x :: r, y :: q => exB x y && exsB r q
  | _, _ => false
end
mutual
theorem exB_eq : ∀ (x y : Ex), exB x y = true → x = y
  | .mk k s n l, .mk k' s' n' l', h => by
    rw [exB] at h
    simp only [Bool.and_eq_true, beq_iff_eq] at h
    obtain ⟨⟨⟨rfl, rfl⟩, rfl⟩, h⟩ := h
    rw [exsB_eq l l' h]
theorem exsB_eq : ∀ (l m : List Ex), exsB l m = true → l = m
  | [], [], _ => rfl
  | x :: r, y :: q, h => by
    rw [exsB, Bool.and_eq_true] at h
    rw [exB_eq x y h.1, exsB_eq r q h.2]
  | [], _ :: _, h => by simp [exsB] at h
  | _ :: _, [], h => by simp [exsB] at h
end
mutual
theorem exB_refl : ∀ (x : Ex), exB x x = true
  | .mk k s n l => by
    rw [exB, exsB_refl l]
    simp
theorem exsB_refl : ∀ (l : List Ex), exsB l l = true
  | [] => by rw [exsB]
  | x :: r => by rw [exsB, exB_refl x, exsB_refl r]; rfl
end
mutual
/-- Are two statements the same; ls: their lines, too? -/
def smB (ls : Bool) : Sm → Sm → Bool
  | .mk k s x b c ln, .mk k' s' x' b' c' ln' => k == k' && s == s' && (!ls || ln == ln') && exsB x x' && smsB ls b b' && smsB ls c c'
def smsB (ls : Bool) : List Sm → List Sm → Bool
  | [], [] => true
  | x :: r, y :: q => smB ls x y && smsB ls r q
  | _, _ => false
end
mutual
theorem smB_eq : ∀ (x y : Sm), smB true x y = true → x = y
  | .mk k s x b c ln, .mk k' s' x' b' c' ln', h => by
    rw [smB] at h
    simp only [Bool.and_eq_true, beq_iff_eq, Bool.not_true, Bool.false_or] at h
    obtain ⟨⟨⟨⟨⟨rfl, rfl⟩, rfl⟩, h1⟩, h2⟩, h3⟩ := h
    rw [exsB_eq x x' h1, smsB_eq b b' h2, smsB_eq c c' h3]
theorem smsB_eq : ∀ (l m : List Sm), smsB true l m = true → l = m
  | [], [], _ => rfl
  | x :: r, y :: q, h => by
    rw [smsB, Bool.and_eq_true] at h
    rw [smB_eq x y h.1, smsB_eq r q h.2]
  | [], _ :: _, h => by simp [smsB] at h
  | _ :: _, [], h => by simp [smsB] at h
end
mutual
theorem smB_refl (ls : Bool) : ∀ (x : Sm), smB ls x x = true
  | .mk k s x b c ln => by
    rw [smB, exsB_refl x, smsB_refl ls b, smsB_refl ls c]
    simp
theorem smsB_refl (ls : Bool) : ∀ (l : List Sm), smsB ls l l = true
  | [] => by rw [smsB]
  | x :: r => by rw [smsB, smB_refl ls x, smsB_refl ls r]; rfl
end
def bdB (ls : Bool) (a b : Bd) : Bool := a.name == b.name && (!ls || a.ln == b.ln) && a.ps == b.ps && smsB ls a.st b.st
def bdsB (ls : Bool) : List Bd → List Bd → Bool
  | [], [] => true
  | x :: r, y :: q => bdB ls x y && bdsB ls r q
  | _, _ => false
def rlB (ls : Bool) (a b : Rl) : Bool := a.name == b.name && (!ls || a.ln == b.ln) && a.ps == b.ps && bdsB ls a.on b.on
def rlsB (ls : Bool) : List Rl → List Rl → Bool
  | [], [] => true
  | x :: r, y :: q => rlB ls x y && rlsB ls r q
  | _, _ => false
def pgB (ls : Bool) (a b : Pg) : Bool := bdsB ls a.fns b.fns && rlsB ls a.roles b.roles
theorem bdB_eq {a b : Bd} (h : bdB true a b = true) : a = b := by
  obtain ⟨n, p, s, l⟩ := a
  obtain ⟨n', p', s', l'⟩ := b
  unfold bdB at h
  simp only [Bool.and_eq_true, beq_iff_eq, Bool.not_true, Bool.false_or] at h
  obtain ⟨⟨⟨rfl, rfl⟩, rfl⟩, h⟩ := h
  rw [smsB_eq _ _ h]
theorem bdsB_eq : ∀ (l m : List Bd), bdsB true l m = true → l = m
  | [], [], _ => rfl
  | x :: r, y :: q, h => by
    rw [bdsB, Bool.and_eq_true] at h
    rw [bdB_eq h.1, bdsB_eq r q h.2]
  | [], _ :: _, h => by simp [bdsB] at h
  | _ :: _, [], h => by simp [bdsB] at h
theorem rlB_eq {a b : Rl} (h : rlB true a b = true) : a = b := by
  obtain ⟨n, p, s, l⟩ := a
  obtain ⟨n', p', s', l'⟩ := b
  unfold rlB at h
  simp only [Bool.and_eq_true, beq_iff_eq, Bool.not_true, Bool.false_or] at h
  obtain ⟨⟨⟨rfl, rfl⟩, rfl⟩, h⟩ := h
  rw [bdsB_eq _ _ h]
theorem rlsB_eq : ∀ (l m : List Rl), rlsB true l m = true → l = m
  | [], [], _ => rfl
  | x :: r, y :: q, h => by
    rw [rlsB, Bool.and_eq_true] at h
    rw [rlB_eq h.1, rlsB_eq r q h.2]
  | [], _ :: _, h => by simp [rlsB] at h
  | _ :: _, [], h => by simp [rlsB] at h
theorem pgB_eq {a b : Pg} (h : pgB true a b = true) : a = b := by
  obtain ⟨f, r⟩ := a
  obtain ⟨f', r'⟩ := b
  unfold pgB at h
  rw [Bool.and_eq_true] at h
  have h1 := bdsB_eq _ _ h.1
  have h2 := rlsB_eq _ _ h.2
  dsimp only at h1 h2
  rw [h1, h2]
theorem bdsB_len {ls : Bool} : ∀ {l m : List Bd}, bdsB ls l m = true → l.length = m.length
  | [], [], _ => rfl
  | x :: r, y :: q, h => by
    rw [bdsB, Bool.and_eq_true] at h
    rw [List.length_cons, List.length_cons, bdsB_len h.2]
  | [], _ :: _, h => by simp [bdsB] at h
  | _ :: _, [], h => by simp [bdsB] at h
theorem rlsB_len {ls : Bool} : ∀ {l m : List Rl}, rlsB ls l m = true → l.length = m.length
  | [], [], _ => rfl
  | x :: r, y :: q, h => by
    rw [rlsB, Bool.and_eq_true] at h
    rw [List.length_cons, List.length_cons, rlsB_len h.2]
  | [], _ :: _, h => by simp [rlsB] at h
  | _ :: _, [], h => by simp [rlsB] at h
/-- What a text is parsed to, decided. -/
def isPg (T : List Nat) (g : Pg) : Bool := match parseF T (fuel T) with
  | none => false
  | some (h, e, _) => e == 0 && pgB true h g
def isEr (T : List Nat) (er fl : Nat) : Bool := match parseF T (fuel T) with
  | none => false
  | some (_, e, l) => e == er && l == fl
theorem isPg_eq {T : List Nat} {g : Pg} (h : isPg T g = true) : ∃ fl, parseF T (fuel T) = some (g, 0, fl) := by
  unfold isPg at h
  split at h
  · cases h
  · rename_i g1 e l hp
    rw [Bool.and_eq_true, beq_iff_eq] at h
    obtain ⟨rfl, h2⟩ := h
    rw [hp, pgB_eq h2]
    exact ⟨l, rfl⟩
theorem isEr_eq {T : List Nat} {er fl : Nat} (h : isEr T er fl = true) : ∃ g, parseF T (fuel T) = some (g, er, fl) := by
  unfold isEr at h
  split at h
  · cases h
  · rename_i g1 e l hp
    simp only [Bool.and_eq_true, beq_iff_eq] at h
    obtain ⟨rfl, rfl⟩ := h
    exact ⟨g1, hp⟩
end Go.Proofs.YteacmanbiamhoaaGreatDoor
namespace Go.Proofs.YteacmanbiamhoaaGreatDoor
open Go.RowKit
set_option linter.unusedVariables false

set_option maxRecDepth 100000 in
set_option maxHeartbeats 4000000 in
theorem sametexts_any (l : List (List Nat)) (w : World) (S S' : Nat → Prop) (v v' : Value) (h : Rd w S (.row 1 (l.map nmNd)) v) (h' : Rd w S' (.row 1 (l.map nmNd)) v') :
    Calls Tryz.prog 64 #[v, v'] w fun e w' => e = .returned (.bool true) ∧ ∃ k, w' = w.drewN k := by
  rw [Rd] at h h'
  obtain ⟨A, c, rfl, hc, hcm, hr⟩ := h
  obtain ⟨A', c', rfl, hc', hcm', hr'⟩ := h'
  rw [List.length_map] at hc hc' ⊢
  have HR := Lib.hid hr
  have HR' := Lib.hid hr'
  obtain ⟨n, hn⟩ : ∃ n, Hid (l.length = n) := ⟨_, Lib.hid rfl⟩
  rw [hn.out] at hc hc' ⊢
  unfold maxLen at hcm
  clear hr hr' hcm'
  go_enter Tryz.func64, Tryz.ntmps64
  go_wp2_with fail
  go_loopg [5] n (fun g i wr => ∃ (j k : Nat), j + g = n ∧ i = .int .i64 (j : Int) ∧ wr = w.drewN k)
  case atStart => exact ⟨0, 0, by omega, rfl, rfl⟩
  case round =>
    obtain ⟨j, k, hj, rfl, hw⟩ := hrel
    cases gk with
    | zero =>
      have h1 : ¬ (j : Int) < (n : Int) := by omega
      have HW := Lib.hid hw
      clear hw
      go_wp2_with fail
      go_ret
      exact ⟨rfl, k, HW.out⟩
    | succ g =>
      have h1 : (j : Int) < (n : Int) := by omega
      have hjl : j < l.length := by rw [hn.out]; omega
      obtain ⟨b, o, vs, rfl, hSb, hvl, hrg, hx⟩ := HR.out.at j (nmNd l[j]) (by simp [hjl])
      obtain ⟨b', o', vs', rfl, hSb', hvl', hrg', hx'⟩ := HR'.out.at j (nmNd l[j]) (by simp [hjl])
      have e1 := ((nm_rd _ _).1 hx).1
      have e2 := ((nm_rd _ _).1 hx').1
      obtain ⟨X, hX⟩ : ∃ X, strOf l[j] = X := ⟨_, rfl⟩
      rw [hX] at e1 e2
      have hv : vs = [.string X] := by
        injection e1 with e1
        have := congrArg Array.toList e1
        simpa using this
      have hv' : vs' = [.string X] := by
        injection e2 with e2
        have := congrArg Array.toList e2
        simpa using this
      subst hv hv'
      have y0 : wr.cell? ⟨b, o + j, none⟩ = some (.string X) := by
        have := hrg 0 _ rfl
        simp only [Nat.zero_add, Nat.mul_one, Nat.add_zero] at this
        rw [hw]
        exact this
      have y1 : wr.cell? ⟨b', o' + j, none⟩ = some (.string X) := by
        have := hrg' 0 _ rfl
        simp only [Nat.zero_add, Nat.mul_one, Nat.add_zero] at this
        rw [hw]
        exact this
      have HW := Lib.hid hw
      clear hX hrg hrg' hx hx' e1 e2 hw hjl
      go_wp2_with fail
      go_quiet (fail)
      go_wp2_with fail
      go_roundg g
      case measure => omega
      case rel => exact ⟨j + 1, k + nq, by omega, by go_num, by rw [HW.out, World.drewN_drewN]⟩
set_option maxRecDepth 100000 in
set_option maxHeartbeats 8000000 in
theorem sameexprs_any : ∀ (N : Nat) (l : List Ex), SizeOf.sizeOf l < N → ∀ (w : World) (S S' : Nat → Prop) (v v' : Value), Rd w S (.row 4 (l.map Ex.nd)) v → Rd w S' (.row 4 (l.map Ex.nd)) v' →
    Calls Tryz.prog 27 #[v, v'] w fun e w' => e = .returned (.bool true) ∧ ∃ k, w' = w.drewN k := by
  intro N
  induction N with
  | zero => exact fun l h => absurd h (by omega)
  | succ N ih =>
    intro l hN w S S' v v' h h'
    have IH := Lib.hid (fun (x : Ex) (hx : x ∈ l) => fun (ks : List Ex) (hk : SizeOf.sizeOf ks < SizeOf.sizeOf x) => ih ks (by
      have := List.sizeOf_lt_of_mem hx
      omega))
    rw [Rd] at h h'
    obtain ⟨A, c, rfl, hc, hcm, hr⟩ := h
    obtain ⟨A', c', rfl, hc', hcm', hr'⟩ := h'
    rw [List.length_map] at hc hc' ⊢
    have HR := Lib.hid hr
    have HR' := Lib.hid hr'
    obtain ⟨n, hn⟩ : ∃ n, Hid (l.length = n) := ⟨_, Lib.hid rfl⟩
    rw [hn.out] at hc hc' ⊢
    unfold maxLen at hcm
    clear hr hr' hcm' ih hN
    go_enter Tryz.func27, Tryz.ntmps27
    go_wp2_with fail
    go_loopg [5] n (fun g i wr => ∃ (j k : Nat), j + g = n ∧ i = .int .i64 (j : Int) ∧ wr = w.drewN k)
    case atStart => exact ⟨0, 0, by omega, rfl, rfl⟩
    case round =>
      obtain ⟨j, k, hj, rfl, hw⟩ := hrel
      cases gk with
      | zero =>
        have h1 : ¬ (j : Int) < (n : Int) := by omega
        have HW := Lib.hid hw
        clear hw
        go_wp2_with fail
        go_ret
        exact ⟨rfl, k, HW.out⟩
      | succ g =>
        have h1 : (j : Int) < (n : Int) := by omega
        have hjl : j < l.length := by rw [hn.out]; omega
        obtain ⟨b, o, vs, rfl, hSb, hvl, hrg, hx⟩ := HR.out.at j (Ex.nd l[j]) (by simp [hjl])
        obtain ⟨b', o', vs', rfl, hSb', hvl', hrg', hx'⟩ := HR'.out.at j (Ex.nd l[j]) (by simp [hjl])
        have HI := Lib.hid (IH.out l[j] (List.getElem_mem hjl))
        generalize l[j] = x at *
        obtain ⟨kd, s, m, ks⟩ := x
        obtain ⟨y, e1, -, -, hy⟩ := (Ex.rd kd s m ks _).1 hx
        obtain ⟨y', e2, -, -, hy'⟩ := (Ex.rd kd s m ks _).1 hx'
        have f1 := hy
        have f2 := hy'
        rw [Rd] at f1 f2
        obtain ⟨A3, c3, rfl, -⟩ := f1
        obtain ⟨A4, c4, rfl, -⟩ := f2
        obtain ⟨kn, hkn⟩ : ∃ kn, (ks.map Ex.nd).length = kn := ⟨_, rfl⟩
        obtain ⟨X, hX⟩ : ∃ X, strOf s = X := ⟨_, rfl⟩
        rw [hkn] at e1 e2 hy hy'
        rw [hX] at e1 e2
        have hv : vs = [.int .u8 (kd : Int), .string X, .int .i64 m, .slice A3 kn c3] := by
          injection e1 with e1
          have := congrArg Array.toList e1
          simpa using this
        have hv' : vs' = [.int .u8 (kd : Int), .string X, .int .i64 m, .slice A4 kn c4] := by
          injection e2 with e2
          have := congrArg Array.toList e2
          simpa using this
        subst hv hv'
        have cl : ∀ i u, [Value.int .u8 (kd : Int), .string X, .int .i64 m, .slice A3 kn c3][i]? = some u → wr.cell? ⟨b, o + j * 4 + i, none⟩ = some u := fun i u hu => by
          have := hrg i u hu
          rw [Nat.zero_add] at this
          rw [hw]
          exact this
        have cl' : ∀ i u, [Value.int .u8 (kd : Int), .string X, .int .i64 m, .slice A4 kn c4][i]? = some u → wr.cell? ⟨b', o' + j * 4 + i, none⟩ = some u := fun i u hu => by
          have := hrg' i u hu
          rw [Nat.zero_add] at this
          rw [hw]
          exact this
        have y0 : wr.cell? ⟨b, o + j * 4, none⟩ = some (.int .u8 (kd : Int)) := cl 0 _ rfl
        have y1 := cl 1 _ rfl
        have y2 := cl 2 _ rfl
        have y3 := cl 3 _ rfl
        have z0 : wr.cell? ⟨b', o' + j * 4, none⟩ = some (.int .u8 (kd : Int)) := cl' 0 _ rfl
        have z1 := cl' 1 _ rfl
        have z2 := cl' 2 _ rfl
        have z3 := cl' 3 _ rfl
        have HC : Hid (∀ q, Calls Tryz.prog 27 #[.slice A3 kn c3, .slice A4 kn c4] (wr.drewN q) fun e w' => e = .returned (.bool true) ∧ ∃ m, w' = (wr.drewN q).drewN m) := Lib.hid fun q =>
          HI.out ks (by simp; omega) (wr.drewN q) S S' _ _ (Rd.keep (w := w) (fun p _ => by rw [hw]; rfl) (fun _ h => h) _ _ hy) (Rd.keep (w := w) (fun p _ => by rw [hw]; rfl) (fun _ h => h) _ _ hy')
        have HW := Lib.hid hw
        clear hX hrg hrg' hx hx' e1 e2 hw hjl cl cl' hy hy' hkn HI IH
        go_wp2_with fail
        go_quiet (first | (go_at_call 27; with_reducible exact Calls.quiet_of (HC.out _)) | (fail))
        go_wp2_with fail
        go_roundg g
        case measure => omega
        case rel => exact ⟨j + 1, k + nq, by omega, by go_num, by rw [HW.out, World.drewN_drewN]⟩
end Go.Proofs.YteacmanbiamhoaaGreatDoor
namespace Go.Proofs.YteacmanbiamhoaaGreatDoor
open Go.RowKit
set_option linter.unusedVariables false

theorem smsB_at {ls : Bool} : ∀ {l m : List Sm}, smsB ls l m = true → l.length = m.length ∧ ∀ (j : Nat) (x y : Sm), l[j]? = some x → m[j]? = some y → smB ls x y = true
  | [], [], _ => ⟨rfl, by simp⟩
  | x :: r, y :: q, h => by
    rw [smsB, Bool.and_eq_true] at h
    obtain ⟨h1, h2⟩ := smsB_at h.2
    refine ⟨by simp [h1], fun j a b ha hb => ?_⟩
    cases j with
    | zero =>
      simp at ha hb
      subst ha hb
      exact h.1
    | succ j => exact h2 j a b (by simpa using ha) (by simpa using hb)
  | [], _ :: _, h => by simp [smsB] at h
  | _ :: _, [], h => by simp [smsB] at h
theorem Rd.rowf {w : World} {S : Nat → Prop} {sz : Nat} {l : List Nd} {v : Value} (h : Rd w S (.row sz l) v) : ∃ A n c, v = .slice A n c := by
  rw [Rd] at h
  obtain ⟨A, c, rfl, -⟩ := h
  exact ⟨_, _, _, rfl⟩
theorem bx6v {vs : List Value} {a b c d e f : Value} (h : (Value.agg vs.toArray) = .agg #[a, b, c, d, e, f]) : vs = [a, b, c, d, e, f] := by
  injection h with h
  have := congrArg Array.toList h
  simpa using this
theorem bx4v {vs : List Value} {a b c d : Value} (h : (Value.agg vs.toArray) = .agg #[a, b, c, d]) : vs = [a, b, c, d] := by
  injection h with h
  have := congrArg Array.toList h
  simpa using this
/-- Six cells, one behind the other. -/
theorem six_cells {w : World} {b o : Nat} {a0 a1 a2 a3 a4 a5 : Value} (h : ∀ i u, [a0, a1, a2, a3, a4, a5][i]? = some u → w.cell? ⟨b, o + i, none⟩ = some u) :
    w.cell? ⟨b, o, none⟩ = some a0 ∧ w.cell? ⟨b, o + 1, none⟩ = some a1 ∧ w.cell? ⟨b, o + 2, none⟩ = some a2 ∧ w.cell? ⟨b, o + 3, none⟩ = some a3 ∧ w.cell? ⟨b, o + 4, none⟩ = some a4 ∧ w.cell? ⟨b, o + 5, none⟩ = some a5 :=
  ⟨h 0 _ rfl, h 1 _ rfl, h 2 _ rfl, h 3 _ rfl, h 4 _ rfl, h 5 _ rfl⟩
theorem six_box {w : World} {g : Nat} {a0 a1 a2 a3 a4 a5 : Value} {E : TypeId} (h : w.heap[g]? = some (.cells #[a0, a1, a2, a3, a4, a5] E (0, 0))) :
    w.cell? ⟨g, 0, none⟩ = some a0 ∧ w.cell? ⟨g, 1, none⟩ = some a1 ∧ w.cell? ⟨g, 2, none⟩ = some a2 ∧ w.cell? ⟨g, 3, none⟩ = some a3 ∧ w.cell? ⟨g, 4, none⟩ = some a4 ∧ w.cell? ⟨g, 5, none⟩ = some a5 :=
  ⟨cell_block h 0, cell_block h 1, cell_block h 2, cell_block h 3, cell_block h 4, cell_block h 5⟩
theorem two_drew {B : Nat} {w wr : World} (h : Below B w wr) {hB : B ≤ wr.heap.size} (X Y : Obj) : Below B w ((wr.alloc X).alloc Y).drew := by
  have := (h.alloc hB X).alloc (by simp; omega) Y
  exact ⟨this.os, this.tape, this.output, this.size, this.block⟩
set_option maxRecDepth 100000 in
set_option maxHeartbeats 8000000 in
theorem samestmts_any (ls : Bool) : ∀ (N : Nat) (l m : List Sm), SizeOf.sizeOf l < N → smsB ls l m = true → ∀ (w : World) (S S' : Nat → Prop) (v v' : Value), (∀ b, S b → b < w.heap.size) → (∀ b, S' b → b < w.heap.size) → Rd w S (.row 6 (l.map Sm.nd)) v → Rd w S' (.row 6 (m.map Sm.nd)) v' →
    Calls Tryz.prog 124 #[v, v', .bool ls] w fun e w' => e = .returned (.bool true) ∧ Below w.heap.size w w' := by
  intro N
  induction N with
  | zero => exact fun l m h => absurd h (by omega)
  | succ N ih =>
    intro l m hN hlm w S S' v v' hS hS' h h'
    have IH := Lib.hid (fun (x : Sm) (hx : x ∈ l) => fun (ks ms : List Sm) (hk : SizeOf.sizeOf ks < SizeOf.sizeOf x) => ih ks ms (by
      have := List.sizeOf_lt_of_mem hx
      omega))
    obtain ⟨hlen, hat⟩ := smsB_at hlm
    rw [Rd] at h h'
    obtain ⟨A, c, rfl, hc, hcm, hr⟩ := h
    obtain ⟨A', c', rfl, hc', hcm', hr'⟩ := h'
    rw [List.length_map] at hc hc' ⊢
    rw [← hlen] at hc'
    rw [List.length_map, ← hlen]
    have HR := Lib.hid hr
    have HR' := Lib.hid hr'
    have HSS := Lib.hid hS
    have HSS' := Lib.hid hS'
    have HAT := Lib.hid hat
    have HLEN := Lib.hid hlen
    obtain ⟨n, hn⟩ : ∃ n, Hid (l.length = n) := ⟨_, Lib.hid rfl⟩
    rw [hn.out] at hc hc' ⊢
    unfold maxLen at hcm
    clear hr hr' hcm' ih hN hlm hlen hat hS hS'
    go_enter Tryz.func124, Tryz.ntmps124
    go_wp2_with fail
    go_loopg [7] n (fun g i wr => ∃ (j : Nat), j + g = n ∧ i = .int .i64 (j : Int) ∧ Hid (Below w.heap.size w wr))
    case atStart => exact ⟨0, by omega, rfl, Lib.hid (Below.refl _ _)⟩
    case round =>
      obtain ⟨j, hj, rfl, HB⟩ := hrel
      cases gk with
      | zero =>
        have h1 : ¬ (j : Int) < (n : Int) := by omega
        go_wp2_with fail
        go_ret
        exact ⟨rfl, HB.out⟩
      | succ g =>
        have h1 : (j : Int) < (n : Int) := by omega
        have hjl : j < l.length := by rw [hn.out]; omega
        have hjm : j < m.length := by rw [← HLEN.out]; exact hjl
        obtain ⟨b, o, vs, rfl, hSb, hvl, hrg, hx⟩ := HR.out.at j (Sm.nd l[j]) (by simp [hjl])
        obtain ⟨b', o', vs', rfl, hSb', hvl', hrg', hx'⟩ := HR'.out.at j (Sm.nd m[j]) (by simp [hjm])
        have HI := Lib.hid (IH.out l[j] (List.getElem_mem hjl))
        have hsm := HAT.out j l[j] m[j] (by simp [hjl]) (by simp [hjm])
        generalize l[j] = x at *
        generalize m[j] = y at *
        obtain ⟨k, s, xs, bd, el, ln⟩ := x
        obtain ⟨k', s', xs', bd', el', ln'⟩ := y
        rw [smB] at hsm
        simp only [Bool.and_eq_true, beq_iff_eq] at hsm
        obtain ⟨⟨⟨⟨⟨rfl, rfl⟩, hln⟩, hxs⟩, hbd⟩, hel⟩ := hsm
        obtain rfl := exsB_eq _ _ hxs
        obtain ⟨u2, u3, u4, e1, -, -, r2, r3, r4⟩ := (Sm.rd k s xs bd el ln _).1 hx
        obtain ⟨t2, t3, t4, e2, -, -, q2, q3, q4⟩ := (Sm.rd k s xs bd' el' ln' _).1 hx'
        obtain ⟨X, hX⟩ : ∃ X, strOf s = X := ⟨_, rfl⟩
        rw [hX] at e1 e2
        obtain rfl := bx6v e1
        obtain rfl := bx6v e2
        have hbq : b < w.heap.size := HSS.out b hSb
        have hbq' : b' < w.heap.size := HSS'.out b' hSb'
        obtain ⟨y0, y1, y2, y3, y4, y5⟩ := six_cells (w := wr) (b := b) (o := o + j * 6) (a0 := .int .u8 (k : Int)) (a1 := .string X) (a2 := u2) (a3 := u3) (a4 := u4) (a5 := .int .i64 ln) (fun i u hu => by
          have := hrg i u hu
          rw [Nat.zero_add] at this
          exact (HB.out.cell (p := ⟨b, o + j * 6 + i, none⟩) hbq).trans this)
        obtain ⟨z0, z1, z2, z3, z4, z5⟩ := six_cells (w := wr) (b := b') (o := o' + j * 6) (a0 := .int .u8 (k : Int)) (a1 := .string X) (a2 := t2) (a3 := t3) (a4 := t4) (a5 := .int .i64 ln') (fun i u hu => by
          have := hrg' i u hu
          rw [Nat.zero_add] at this
          exact (HB.out.cell (p := ⟨b', o' + j * 6 + i, none⟩) hbq').trans this)
        obtain ⟨A2, n2, c2, rfl⟩ := r2.rowf
        obtain ⟨A3, n3, c3, rfl⟩ := r3.rowf
        obtain ⟨A4, n4, c4, rfl⟩ := r4.rowf
        obtain ⟨B2, m2, d2, rfl⟩ := q2.rowf
        obtain ⟨B3, m3, d3, rfl⟩ := q3.rowf
        obtain ⟨B4, m4, d4, rfl⟩ := q4.rowf
        have hwr : w.heap.size ≤ wr.heap.size := HB.out.size
        have hb1 : b < wr.heap.size := by omega
        have hb2 : b' < wr.heap.size := by omega
        have HEX := Lib.hid (fun w' (hb : Below w.heap.size w w') => sameexprs_any _ xs (Nat.lt_succ_self _) w' S S' _ _ (Rd.keep (fun p hp => hb.cell (HSS.out _ hp)) (fun _ h => h) _ _ r2) (Rd.keep (fun p hp => hb.cell (HSS'.out _ hp)) (fun _ h => h) _ _ q2))
        have HBD := Lib.hid (fun w' (hb : Below w.heap.size w w') => HI.out bd bd' (by simp; omega) hbd w' S S' _ _ (fun b h => Nat.lt_of_lt_of_le (HSS.out b h) hb.size) (fun b h => Nat.lt_of_lt_of_le (HSS'.out b h) hb.size) (Rd.keep (fun p hp => hb.cell (HSS.out _ hp)) (fun _ h => h) _ _ r3) (Rd.keep (fun p hp => hb.cell (HSS'.out _ hp)) (fun _ h => h) _ _ q3))
        have HEL := Lib.hid (fun w' (hb : Below w.heap.size w w') => HI.out el el' (by simp; omega) hel w' S S' _ _ (fun b h => Nat.lt_of_lt_of_le (HSS.out b h) hb.size) (fun b h => Nat.lt_of_lt_of_le (HSS'.out b h) hb.size) (Rd.keep (fun p hp => hb.cell (HSS.out _ hp)) (fun _ h => h) _ _ r4) (Rd.keep (fun p hp => hb.cell (HSS'.out _ hp)) (fun _ h => h) _ _ q4))
        clear hX hrg hrg' hx hx' e1 e2 hjl hjm hvl hvl' r2 r3 r4 q2 q3 q4 hbd hel hxs HI IH
        go_wp2_with fail
        go_region_held3 (fun w' => (w'.cell? ⟨b, o + j * 6, none⟩ = some (.int .u8 (k : Int)) ∧ w'.cell? ⟨b, o + j * 6 + 1, none⟩ = some (.string X) ∧ w'.cell? ⟨b, o + j * 6 + 2, none⟩ = some (.slice A2 n2 c2) ∧ w'.cell? ⟨b, o + j * 6 + 3, none⟩ = some (.slice A3 n3 c3) ∧ w'.cell? ⟨b, o + j * 6 + 4, none⟩ = some (.slice A4 n4 c4) ∧ w'.cell? ⟨b, o + j * 6 + 5, none⟩ = some (.int .i64 ln)) ∧ (w'.cell? ⟨b', o' + j * 6, none⟩ = some (.int .u8 (k : Int)) ∧ w'.cell? ⟨b', o' + j * 6 + 1, none⟩ = some (.string X) ∧ w'.cell? ⟨b', o' + j * 6 + 2, none⟩ = some (.slice B2 m2 d2) ∧ w'.cell? ⟨b', o' + j * 6 + 3, none⟩ = some (.slice B3 m3 d3) ∧ w'.cell? ⟨b', o' + j * 6 + 4, none⟩ = some (.slice B4 m4 d4) ∧ w'.cell? ⟨b', o' + j * 6 + 5, none⟩ = some (.int .i64 ln'))) (go_keep) (fail)
        · cases ls with
          | false =>
            clear hln
            obtain ⟨W, hW⟩ : ∃ W, Hid (((wr.alloc (.cells #[.int .u8 (k : Int), .string X, .slice A2 n2 c2, .slice A3 n3 c3, .slice A4 n4 c4, .int .i64 ln] 58)).alloc (.cells #[.int .u8 (k : Int), .string X, .slice B2 m2 d2, .slice B3 m3 d3, .slice B4 m4 d4, .int .i64 ln'] 58)).drew = W) := ⟨_, Lib.hid rfl⟩
            have HBW : Hid (Below w.heap.size w W) := Lib.hid (by rw [← hW.out]; exact two_drew (hB := hwr) HB.out _ _)
            have HP : Hid (W.heap[wr.heap.size]? = some (.cells #[.int .u8 (k : Int), .string X, .slice A2 n2 c2, .slice A3 n3 c3, .slice A4 n4 c4, .int .i64 ln] 58 (0, 0))) := Lib.hid (by rw [← hW.out]; exact heap_old (heap_new wr _) _)
            have HQ : Hid (W.heap[(wr.heap.size + 1)]? = some (.cells #[.int .u8 (k : Int), .string X, .slice B2 m2 d2, .slice B3 m3 d3, .slice B4 m4 d4, .int .i64 ln'] 58 (0, 0))) := Lib.hid (by rw [← hW.out]; exact heap_new' (wr.alloc _) _ _ (by simp))
            rw [hW.out]
            clear hW y0 y1 y2 y3 y4 y5 z0 z1 z2 z3 z4 z5 HB
            obtain ⟨p0, p1, p2, p3, p4, p5⟩ := six_box HP.out
            obtain ⟨v0, v1, v2, v3, v4, v5⟩ := six_box HQ.out
            go_wp2_with (first
              | (go_at_call 27
                 refine (HEX.out _ HBW.out).mono ?_
                 rintro e w1 ⟨rfl, kq, rfl⟩
                 have HB1 := Lib.hid (below_drewN HBW.out kq))
              | (go_at_call 124
                 (with_reducible show Calls _ _ #[.slice A3 n3 c3, .slice B3 m3 d3, _] _ _)
                 refine (HBD.out _ HB1.out).mono ?_
                 rintro e w2 ⟨rfl, hb2⟩
                 have HB2 := Lib.hid (HB1.out.trans (hb2.mono HB1.out.size))
                 obtain ⟨s0, s1, s2, s3, s4, s5⟩ := six_box (heap_below (w := W.drewN kq) HP.out hb2)
                 obtain ⟨r0, r1, r2', r3', r4', r5⟩ := six_box (heap_below (w := W.drewN kq) HQ.out hb2)
                 clear hb2)
              | (go_at_call 124
                 (with_reducible show Calls _ _ #[.slice A4 n4 c4, .slice B4 m4 d4, _] _ _)
                 refine (HEL.out _ HB2.out).mono ?_
                 rintro e w3 ⟨rfl, hb3⟩
                 have HB3 := Lib.hid (HB2.out.trans (hb3.mono HB2.out.size))
                 clear hb3)
              | (fail))
            go_roundg g
            case measure => omega
            case rel => exact ⟨j + 1, by omega, by go_num, HB3⟩
          | true =>
            obtain rfl : ln = ln' := by simpa using hln
            clear hln
            obtain ⟨W, hW⟩ : ∃ W, Hid (((wr.alloc (.cells #[.int .u8 (k : Int), .string X, .slice A2 n2 c2, .slice A3 n3 c3, .slice A4 n4 c4, .int .i64 ln] 58)).alloc (.cells #[.int .u8 (k : Int), .string X, .slice B2 m2 d2, .slice B3 m3 d3, .slice B4 m4 d4, .int .i64 ln] 58)).drew = W) := ⟨_, Lib.hid rfl⟩
            have HBW : Hid (Below w.heap.size w W) := Lib.hid (by rw [← hW.out]; exact two_drew (hB := hwr) HB.out _ _)
            have HP : Hid (W.heap[wr.heap.size]? = some (.cells #[.int .u8 (k : Int), .string X, .slice A2 n2 c2, .slice A3 n3 c3, .slice A4 n4 c4, .int .i64 ln] 58 (0, 0))) := Lib.hid (by rw [← hW.out]; exact heap_old (heap_new wr _) _)
            have HQ : Hid (W.heap[(wr.heap.size + 1)]? = some (.cells #[.int .u8 (k : Int), .string X, .slice B2 m2 d2, .slice B3 m3 d3, .slice B4 m4 d4, .int .i64 ln] 58 (0, 0))) := Lib.hid (by rw [← hW.out]; exact heap_new' (wr.alloc _) _ _ (by simp))
            rw [hW.out]
            clear hW y0 y1 y2 y3 y4 y5 z0 z1 z2 z3 z4 z5 HB
            obtain ⟨p0, p1, p2, p3, p4, p5⟩ := six_box HP.out
            obtain ⟨v0, v1, v2, v3, v4, v5⟩ := six_box HQ.out
            go_wp2_with (first
              | (go_at_call 27
                 refine (HEX.out _ HBW.out).mono ?_
                 rintro e w1 ⟨rfl, kq, rfl⟩
                 have HB1 := Lib.hid (below_drewN HBW.out kq))
              | (go_at_call 124
                 (with_reducible show Calls _ _ #[.slice A3 n3 c3, .slice B3 m3 d3, _] _ _)
                 refine (HBD.out _ HB1.out).mono ?_
                 rintro e w2 ⟨rfl, hb2⟩
                 have HB2 := Lib.hid (HB1.out.trans (hb2.mono HB1.out.size))
                 obtain ⟨s0, s1, s2, s3, s4, s5⟩ := six_box (heap_below (w := W.drewN kq) HP.out hb2)
                 obtain ⟨r0, r1, r2', r3', r4', r5⟩ := six_box (heap_below (w := W.drewN kq) HQ.out hb2)
                 clear hb2)
              | (go_at_call 124
                 (with_reducible show Calls _ _ #[.slice A4 n4 c4, .slice B4 m4 d4, _] _ _)
                 refine (HEL.out _ HB2.out).mono ?_
                 rintro e w3 ⟨rfl, hb3⟩
                 have HB3 := Lib.hid (HB2.out.trans (hb3.mono HB2.out.size))
                 clear hb3)
              | (fail))
            go_roundg g
            case measure => omega
            case rel => exact ⟨j + 1, by omega, by go_num, HB3⟩
        · cases ls with
          | false =>
            clear hln
            obtain ⟨W, hW⟩ : ∃ W, Hid (((wr.alloc (.cells #[.int .u8 (k : Int), .string X, .slice B2 m2 d2, .slice B3 m3 d3, .slice B4 m4 d4, .int .i64 ln'] 58)).alloc (.cells #[.int .u8 (k : Int), .string X, .slice A2 n2 c2, .slice A3 n3 c3, .slice A4 n4 c4, .int .i64 ln] 58)).drew = W) := ⟨_, Lib.hid rfl⟩
            have HBW : Hid (Below w.heap.size w W) := Lib.hid (by rw [← hW.out]; exact two_drew (hB := hwr) HB.out _ _)
            have HP : Hid (W.heap[(wr.heap.size + 1)]? = some (.cells #[.int .u8 (k : Int), .string X, .slice A2 n2 c2, .slice A3 n3 c3, .slice A4 n4 c4, .int .i64 ln] 58 (0, 0))) := Lib.hid (by rw [← hW.out]; exact heap_new' (wr.alloc _) _ _ (by simp))
            have HQ : Hid (W.heap[wr.heap.size]? = some (.cells #[.int .u8 (k : Int), .string X, .slice B2 m2 d2, .slice B3 m3 d3, .slice B4 m4 d4, .int .i64 ln'] 58 (0, 0))) := Lib.hid (by rw [← hW.out]; exact heap_old (heap_new wr _) _)
            rw [hW.out]
            clear hW y0 y1 y2 y3 y4 y5 z0 z1 z2 z3 z4 z5 HB
            obtain ⟨p0, p1, p2, p3, p4, p5⟩ := six_box HP.out
            obtain ⟨v0, v1, v2, v3, v4, v5⟩ := six_box HQ.out
            go_wp2_with (first
              | (go_at_call 27
                 refine (HEX.out _ HBW.out).mono ?_
                 rintro e w1 ⟨rfl, kq, rfl⟩
                 have HB1 := Lib.hid (below_drewN HBW.out kq))
              | (go_at_call 124
                 (with_reducible show Calls _ _ #[.slice A3 n3 c3, .slice B3 m3 d3, _] _ _)
                 refine (HBD.out _ HB1.out).mono ?_
                 rintro e w2 ⟨rfl, hb2⟩
                 have HB2 := Lib.hid (HB1.out.trans (hb2.mono HB1.out.size))
                 obtain ⟨s0, s1, s2, s3, s4, s5⟩ := six_box (heap_below (w := W.drewN kq) HP.out hb2)
                 obtain ⟨r0, r1, r2', r3', r4', r5⟩ := six_box (heap_below (w := W.drewN kq) HQ.out hb2)
                 clear hb2)
              | (go_at_call 124
                 (with_reducible show Calls _ _ #[.slice A4 n4 c4, .slice B4 m4 d4, _] _ _)
                 refine (HEL.out _ HB2.out).mono ?_
                 rintro e w3 ⟨rfl, hb3⟩
                 have HB3 := Lib.hid (HB2.out.trans (hb3.mono HB2.out.size))
                 clear hb3)
              | (fail))
            go_roundg g
            case measure => omega
            case rel => exact ⟨j + 1, by omega, by go_num, HB3⟩
          | true =>
            obtain rfl : ln = ln' := by simpa using hln
            clear hln
            obtain ⟨W, hW⟩ : ∃ W, Hid (((wr.alloc (.cells #[.int .u8 (k : Int), .string X, .slice B2 m2 d2, .slice B3 m3 d3, .slice B4 m4 d4, .int .i64 ln] 58)).alloc (.cells #[.int .u8 (k : Int), .string X, .slice A2 n2 c2, .slice A3 n3 c3, .slice A4 n4 c4, .int .i64 ln] 58)).drew = W) := ⟨_, Lib.hid rfl⟩
            have HBW : Hid (Below w.heap.size w W) := Lib.hid (by rw [← hW.out]; exact two_drew (hB := hwr) HB.out _ _)
            have HP : Hid (W.heap[(wr.heap.size + 1)]? = some (.cells #[.int .u8 (k : Int), .string X, .slice A2 n2 c2, .slice A3 n3 c3, .slice A4 n4 c4, .int .i64 ln] 58 (0, 0))) := Lib.hid (by rw [← hW.out]; exact heap_new' (wr.alloc _) _ _ (by simp))
            have HQ : Hid (W.heap[wr.heap.size]? = some (.cells #[.int .u8 (k : Int), .string X, .slice B2 m2 d2, .slice B3 m3 d3, .slice B4 m4 d4, .int .i64 ln] 58 (0, 0))) := Lib.hid (by rw [← hW.out]; exact heap_old (heap_new wr _) _)
            rw [hW.out]
            clear hW y0 y1 y2 y3 y4 y5 z0 z1 z2 z3 z4 z5 HB
            obtain ⟨p0, p1, p2, p3, p4, p5⟩ := six_box HP.out
            obtain ⟨v0, v1, v2, v3, v4, v5⟩ := six_box HQ.out
            go_wp2_with (first
              | (go_at_call 27
                 refine (HEX.out _ HBW.out).mono ?_
                 rintro e w1 ⟨rfl, kq, rfl⟩
                 have HB1 := Lib.hid (below_drewN HBW.out kq))
              | (go_at_call 124
                 (with_reducible show Calls _ _ #[.slice A3 n3 c3, .slice B3 m3 d3, _] _ _)
                 refine (HBD.out _ HB1.out).mono ?_
                 rintro e w2 ⟨rfl, hb2⟩
                 have HB2 := Lib.hid (HB1.out.trans (hb2.mono HB1.out.size))
                 obtain ⟨s0, s1, s2, s3, s4, s5⟩ := six_box (heap_below (w := W.drewN kq) HP.out hb2)
                 obtain ⟨r0, r1, r2', r3', r4', r5⟩ := six_box (heap_below (w := W.drewN kq) HQ.out hb2)
                 clear hb2)
              | (go_at_call 124
                 (with_reducible show Calls _ _ #[.slice A4 n4 c4, .slice B4 m4 d4, _] _ _)
                 refine (HEL.out _ HB2.out).mono ?_
                 rintro e w3 ⟨rfl, hb3⟩
                 have HB3 := Lib.hid (HB2.out.trans (hb3.mono HB2.out.size))
                 clear hb3)
              | (fail))
            go_roundg g
            case measure => omega
            case rel => exact ⟨j + 1, by omega, by go_num, HB3⟩
end Go.Proofs.YteacmanbiamhoaaGreatDoor
