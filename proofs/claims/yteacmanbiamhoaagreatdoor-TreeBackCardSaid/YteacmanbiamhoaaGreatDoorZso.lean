/- Texts Zs, Zl, Zm, Zn, Zo of this seat in one: see each part. -/
import Derived.Test.YteacmanbiamhoaaGreatDoorYaf
import Derived.Test.YteacmanbiamhoaaGreatDoorPz
import Derived.Test.YteacmanbiamhoaaGreatDoorYgo
import Derived.Test.YteacmanbiamhoaaGreatDoorZac
import Derived.Test.YteacmanbiamhoaaGreatDoorYpt
namespace Go.Proofs.YteacmanbiamhoaaGreatDoor
set_option linter.unusedVariables false

/-- What is written ends with that text, unless it became too long. -/
def App (f : Sw → Sw) (T : List Nat) : Prop := ∀ a, (f a).long = false → a.long = false ∧ (f a).t = a.t ++ T ∧ (a.t.length ≤ 32768 → (f a).t.length ≤ 32768)
theorem App.of {f g : Sw → Sw} {T U : List Nat} (h : App f T) (hf : ∀ a, g a = f a) (hT : U = T) : App g U := fun a ha => by
  rw [hf] at ha ⊢
  rw [hT]
  exact h a ha
theorem App.id : App (fun a => a) [] := fun a h => ⟨h, by simp, fun h => h⟩
theorem App.put (l : List Nat) : App (fun a => putS a l) l := fun a h => by
  dsimp only at h ⊢
  unfold putS at h ⊢
  split at h
  · cases h
  · rename_i h1
    rw [if_neg h1]
    refine ⟨by simpa using fun e => h1 (.inl e), rfl, fun _ => ?_⟩
    rw [List.length_append]
    omega
theorem App.comp {f g : Sw → Sw} {T U : List Nat} (h : App f T) (h' : App g U) : App (fun a => g (f a)) (T ++ U) := fun a ha => by
  obtain ⟨h1, h2, h5⟩ := h' _ ha
  obtain ⟨h3, h4, h6⟩ := h _ h1
  exact ⟨h3, by rw [h2, h4, List.append_assoc], fun e => h5 (h6 e)⟩
theorem App.puts : ∀ ls : List (List Nat), App (fun a => putsS a ls) ls.flatten
  | [] => App.id
  | l :: r => ((App.put l).comp (App.puts r)).of (fun a => rfl) (by simp)
theorem App.tabs : ∀ n, App (tabS n) (List.replicate n 9)
  | 0 => App.id
  | n + 1 => ((App.put [9]).comp (App.tabs n)).of (fun a => rfl) rfl
theorem App.begin (n : Nat) (ls : List (List Nat)) : App (beginS n ls) (List.replicate n 9 ++ ls.flatten) := ((App.tabs n).comp (App.puts ls)).of (fun a => rfl) rfl
theorem App.iff {f g : Sw → Sw} {T U : List Nat} (c : Prop) [Decidable c] (h : App f T) (h' : App g U) : App (fun a => if c then f a else g a) (if c then T else U) := by
  by_cases hc : c
  · exact h.of (fun a => if_pos hc) (if_pos hc)
  · exact h'.of (fun a => if_neg hc) (if_neg hc)
def comT (j : Nat) : List Nat := if 0 < j then [44, 32] else []
theorem App.com (j : Nat) : App (comS j) (comT j) := (App.iff (0 < j) (App.puts [[44, 32]]) App.id).of (fun a => rfl) rfl
mutual
def exT : Ex → List Nat
  | .mk k s n l =>
    if k = 1 then numT n
    else if k = 2 then truT (n == 1)
    else if k = 3 then quoW s
    else if k = 4 then s
    else if k = 5 then [115, 101, 108, 102]
    else if k = 6 then [40] ++ exsT 0 l ++ [41]
    else if k = 7 then opT s l
    else if k = 8 then atT l
    else if k = 9 then [108, 101, 110] ++ [40] ++ exsT 0 l ++ [41]
    else if k = 10 then [[99, 97, 108, 108, 32], s].flatten ++ [40] ++ exsT 0 l ++ [41]
    else if k = 11 then [[115, 112, 97, 119, 110, 32], s].flatten ++ [40] ++ exsT 0 l ++ [41]
    else []
def exsT : Nat → List Ex → List Nat
  | _, [] => []
  | j, x :: r => comT j ++ exT x ++ exsT (j + 1) r
def opT (s : List Nat) : List Ex → List Nat
  | [x] => [s, [32]].flatten ++ (if isOpK x then [40] ++ exT x ++ [41] else exT x)
  | [x, y] => (if isOpK x then [40] ++ exT x ++ [41] else exT x) ++ [32] ++ [s, [32]].flatten ++ (if isOpK y then [40] ++ exT y ++ [41] else exT y)
  | _ => []
def atT : List Ex → List Nat
  | [x, y] => (if isOpK x then [40] ++ exT x ++ [41] else exT x) ++ [91] ++ exT y ++ [93]
  | _ => []
end
theorem App.par {x : Ex} (h : App (exS x) (exT x)) : App (fun a => if isOpK x then putS (exS x (putS a [40])) [41] else exS x a) (if isOpK x then [40] ++ exT x ++ [41] else exT x) :=
  App.iff (isOpK x = true) (((App.put [40]).comp h).comp (App.put [41])) h
mutual
theorem exS_app : ∀ x : Ex, App (exS x) (exT x)
  | .mk k s n l => by
    by_cases h1 : k = 1
    · exact (App.put _).of (fun a => by rw [exS, if_pos h1]) (by rw [exT, if_pos h1])
    by_cases h2 : k = 2
    · exact (App.put _).of (fun a => by rw [exS, if_neg h1, if_pos h2]) (by rw [exT, if_neg h1, if_pos h2])
    by_cases h3 : k = 3
    · exact (App.put _).of (fun a => by rw [exS, if_neg h1, if_neg h2, if_pos h3]) (by rw [exT, if_neg h1, if_neg h2, if_pos h3])
    by_cases h4 : k = 4
    · exact (App.put _).of (fun a => by rw [exS, if_neg h1, if_neg h2, if_neg h3, if_pos h4]) (by rw [exT, if_neg h1, if_neg h2, if_neg h3, if_pos h4])
    by_cases h5 : k = 5
    · exact (App.put _).of (fun a => by rw [exS, if_neg h1, if_neg h2, if_neg h3, if_neg h4, if_pos h5]) (by rw [exT, if_neg h1, if_neg h2, if_neg h3, if_neg h4, if_pos h5])
    by_cases h6 : k = 6
    · exact (((App.put [40]).comp (exsS_app 0 l)).comp (App.put [41])).of (fun a => by rw [exS, if_neg h1, if_neg h2, if_neg h3, if_neg h4, if_neg h5, if_pos h6]) (by rw [exT, if_neg h1, if_neg h2, if_neg h3, if_neg h4, if_neg h5, if_pos h6])
    by_cases h7 : k = 7
    · exact (opS_app s l).of (fun a => by rw [exS, if_neg h1, if_neg h2, if_neg h3, if_neg h4, if_neg h5, if_neg h6, if_pos h7]) (by rw [exT, if_neg h1, if_neg h2, if_neg h3, if_neg h4, if_neg h5, if_neg h6, if_pos h7])
    by_cases h8 : k = 8
    · exact (atS_app l).of (fun a => by rw [exS, if_neg h1, if_neg h2, if_neg h3, if_neg h4, if_neg h5, if_neg h6, if_neg h7, if_pos h8]) (by rw [exT, if_neg h1, if_neg h2, if_neg h3, if_neg h4, if_neg h5, if_neg h6, if_neg h7, if_pos h8])
    by_cases h9 : k = 9
    · exact ((((App.put [108, 101, 110]).comp (App.put [40])).comp (exsS_app 0 l)).comp (App.put [41])).of (fun a => by rw [exS, if_neg h1, if_neg h2, if_neg h3, if_neg h4, if_neg h5, if_neg h6, if_neg h7, if_neg h8, if_pos h9]) (by rw [exT, if_neg h1, if_neg h2, if_neg h3, if_neg h4, if_neg h5, if_neg h6, if_neg h7, if_neg h8, if_pos h9])
    by_cases h10 : k = 10
    · exact ((((App.puts [[99, 97, 108, 108, 32], s]).comp (App.put [40])).comp (exsS_app 0 l)).comp (App.put [41])).of (fun a => by rw [exS, if_neg h1, if_neg h2, if_neg h3, if_neg h4, if_neg h5, if_neg h6, if_neg h7, if_neg h8, if_neg h9, if_pos h10]) (by rw [exT, if_neg h1, if_neg h2, if_neg h3, if_neg h4, if_neg h5, if_neg h6, if_neg h7, if_neg h8, if_neg h9, if_pos h10])
    by_cases h11 : k = 11
    · exact ((((App.puts [[115, 112, 97, 119, 110, 32], s]).comp (App.put [40])).comp (exsS_app 0 l)).comp (App.put [41])).of (fun a => by rw [exS, if_neg h1, if_neg h2, if_neg h3, if_neg h4, if_neg h5, if_neg h6, if_neg h7, if_neg h8, if_neg h9, if_neg h10, if_pos h11]) (by rw [exT, if_neg h1, if_neg h2, if_neg h3, if_neg h4, if_neg h5, if_neg h6, if_neg h7, if_neg h8, if_neg h9, if_neg h10, if_pos h11])
    · exact App.id.of (fun a => by rw [exS, if_neg h1, if_neg h2, if_neg h3, if_neg h4, if_neg h5, if_neg h6, if_neg h7, if_neg h8, if_neg h9, if_neg h10, if_neg h11]) (by rw [exT, if_neg h1, if_neg h2, if_neg h3, if_neg h4, if_neg h5, if_neg h6, if_neg h7, if_neg h8, if_neg h9, if_neg h10, if_neg h11])
theorem exsS_app : ∀ (j : Nat) (l : List Ex), App (exsS j l) (exsT j l)
  | j, [] => App.id.of (fun a => by rw [exsS]) (by rw [exsT])
  | j, x :: r => (((App.com j).comp (exS_app x)).comp (exsS_app (j + 1) r)).of (fun a => by rw [exsS]) (by rw [exsT])
theorem opS_app : ∀ (s : List Nat) (l : List Ex), App (opS s l) (opT s l)
  | s, [] => App.id.of (fun a => by rw [opS] <;> simp) (by rw [opT] <;> simp)
  | s, [x] => ((App.puts [s, [32]]).comp (App.par (exS_app x))).of (fun a => by
      rw [opS]) (by rw [opT])
  | s, [x, y] => ((((App.par (exS_app x)).comp (App.put [32])).comp (App.puts [s, [32]])).comp (App.par (exS_app y))).of (fun a => by
      rw [opS]) (by rw [opT])
  | s, x :: y :: z :: r => App.id.of (fun a => by rw [opS] <;> simp) (by rw [opT] <;> simp)
theorem atS_app : ∀ (l : List Ex), App (atS l) (atT l)
  | [] => App.id.of (fun a => by rw [atS] <;> simp) (by rw [atT] <;> simp)
  | [x] => App.id.of (fun a => by rw [atS] <;> simp) (by rw [atT] <;> simp)
  | [x, y] => ((((App.par (exS_app x)).comp (App.put [91])).comp (exS_app y)).comp (App.put [93])).of (fun a => by rw [atS]) (by rw [atT])
  | x :: y :: z :: r => App.id.of (fun a => by rw [atS] <;> simp) (by rw [atT] <;> simp)
end
def partT (x : Ex) : List Nat := if isOpK x then [40] ++ exT x ++ [41] else exT x
theorem partS_app (x : Ex) : App (partS x) (partT x) := App.par (exS_app x)
theorem listS_app (l : List Ex) : App (listS l) ([40] ++ exsT 0 l ++ [41]) := ((App.put [40]).comp (exsS_app 0 l)).comp (App.put [41])
def hdE (x : List Ex) : Ex := x.headD (.mk 0 [] 0 [])
mutual
def smT : Nat → Sm → List Nat
  | lv, .mk k s x b e _ =>
    if k = 3 ∨ k = 4 then
      (List.replicate lv 9 ++ [if k = 4 then [119, 104, 105, 108, 101, 32, 40] else [105, 102, 32, 40]].flatten) ++ exT (hdE x) ++ [41] ++ [32, 123, 10] ++ smsT (lv + 1) b ++ (List.replicate lv 9 ++ [[125]].flatten) ++ (if 0 < e.length then [32, 101, 108, 115, 101] ++ [32, 123, 10] ++ smsT (lv + 1) e ++ (List.replicate lv 9 ++ [[125]].flatten) else []) ++ [10]
    else
      (if k = 1 then (List.replicate lv 9 ++ [[108, 101, 116, 32], s, [32, 61, 32]].flatten) ++ exT (hdE x)
        else if k = 2 then (List.replicate lv 9 ++ [[115, 101, 116, 32], s, [32, 61, 32]].flatten) ++ exT (hdE x)
        else if k = 5 then (List.replicate lv 9 ++ [[114, 101, 116, 117, 114, 110, 32]].flatten) ++ exT (hdE x)
        else if k = 6 then (List.replicate lv 9 ++ [[115, 101, 110, 100, 32]].flatten) ++ partT (hdE x) ++ [[32], s].flatten ++ ([40] ++ exsT 0 x.tail ++ [41])
        else if k = 7 then (List.replicate lv 9 ++ [[98, 101, 99, 111, 109, 101, 32], s].flatten) ++ ([40] ++ exsT 0 x ++ [41])
        else if k = 8 then List.replicate lv 9 ++ [[115, 116, 111, 112]].flatten
        else if k = 9 then (List.replicate lv 9 ++ [].flatten) ++ exT (hdE x)
        else []) ++ [59, 10]
def smsT : Nat → List Sm → List Nat
  | _, [] => []
  | lv, x :: r => smT lv x ++ smsT lv r
end
mutual
theorem smS_app : ∀ (lv : Nat) (x : Sm), App (smS lv x) (smT lv x)
  | lv, .mk k s x b e ln => by
    by_cases h : k = 3 ∨ k = 4
    · have hb := smsS_app (lv + 1) b
      have he := smsS_app (lv + 1) e
      have h1 := (((((App.begin lv [if k = 4 then [119, 104, 105, 108, 101, 32, 40] else [105, 102, 32, 40]]).comp (exS_app (hdE x))).comp (App.put [41])).comp (App.put [32, 123, 10])).comp hb).comp (App.begin lv [[125]])
      have h2 := ((((App.put [32, 101, 108, 115, 101]).comp (App.put [32, 123, 10])).comp he).comp (App.begin lv [[125]]))
      exact ((h1.comp (App.iff (0 < e.length) h2 App.id)).comp (App.put [10])).of (fun a => by rw [smS, if_pos h]; rfl) (by rw [smT, if_pos h])
    · have H1 := (App.begin lv [[108, 101, 116, 32], s, [32, 61, 32]]).comp (exS_app (hdE x))
      have H2 := (App.begin lv [[115, 101, 116, 32], s, [32, 61, 32]]).comp (exS_app (hdE x))
      have H5 := (App.begin lv [[114, 101, 116, 117, 114, 110, 32]]).comp (exS_app (hdE x))
      have H6 := (((App.begin lv [[115, 101, 110, 100, 32]]).comp (partS_app (hdE x))).comp (App.puts [[32], s])).comp (listS_app x.tail)
      have H7 := (App.begin lv [[98, 101, 99, 111, 109, 101, 32], s]).comp (listS_app x)
      have H8 := App.begin lv [[115, 116, 111, 112]]
      have H9 := (App.begin lv []).comp (exS_app (hdE x))
      have HH := App.iff (k = 1) H1 (App.iff (k = 2) H2 (App.iff (k = 5) H5 (App.iff (k = 6) H6 (App.iff (k = 7) H7 (App.iff (k = 8) H8 (App.iff (k = 9) H9 App.id))))))
      exact (HH.comp (App.put [59, 10])).of (fun a => by rw [smS, if_neg h]; rfl) (by rw [smT, if_neg h])
theorem smsS_app : ∀ (lv : Nat) (l : List Sm), App (smsS lv l) (smsT lv l)
  | lv, [] => App.id.of (fun a => by rw [smsS]) (by rw [smsT])
  | lv, x :: r => ((smS_app lv x).comp (smsS_app lv r)).of (fun a => by rw [smsS]) (by rw [smsT])
end
def braceT (lv : Nat) (l : List Sm) : List Nat := [32, 123, 10] ++ smsT (lv + 1) l ++ (List.replicate lv 9 ++ [[125]].flatten)
theorem braceS_app (lv : Nat) (l : List Sm) : App (braceS lv l) (braceT lv l) := ((App.put [32, 123, 10]).comp (smsS_app (lv + 1) l)).comp (App.begin lv [[125]])
def namesT : Nat → List (List Nat) → List Nat
  | _, [] => []
  | j, x :: r => comT j ++ [x].flatten ++ namesT (j + 1) r
theorem namesS_app : ∀ (j : Nat) (l : List (List Nat)), App (namesS j l) (namesT j l)
  | j, [] => App.id
  | j, x :: r => (((App.com j).comp (App.puts [x])).comp (namesS_app (j + 1) r)).of (fun a => rfl) rfl
def headT (n : List Nat) (ps : List (List Nat)) : List Nat := [n, [40]].flatten ++ namesT 0 ps ++ [[41]].flatten
theorem headS_app (n : List Nat) (ps : List (List Nat)) : App (headS n ps) (headT n ps) := ((App.puts [n, [40]]).comp (namesS_app 0 ps)).comp (App.puts [[41]])
def bdT (lv : Nat) (key : List Nat) (b : Bd) : List Nat := (List.replicate lv 9 ++ [key].flatten) ++ headT b.name b.ps ++ braceT lv b.st ++ [10]
theorem bdS_app (lv : Nat) (key : List Nat) (b : Bd) : App (bdS lv key b) (bdT lv key b) := (((App.begin lv [key]).comp (headS_app b.name b.ps)).comp (braceS_app lv b.st)).comp (App.put [10])
def bdsT (lv : Nat) (key : List Nat) : List Bd → List Nat
  | [] => []
  | x :: r => bdT lv key x ++ bdsT lv key r
theorem bdsS_app (lv : Nat) (key : List Nat) : ∀ l, App (bdsS lv key l) (bdsT lv key l)
  | [] => App.id
  | x :: r => ((bdS_app lv key x).comp (bdsS_app lv key r)).of (fun a => rfl) rfl
def rlT (r : Rl) : List Nat := (List.replicate 0 9 ++ [[97, 99, 116, 111, 114, 32]].flatten) ++ headT r.name r.ps ++ [32, 123, 10] ++ bdsT 1 [111, 110, 32] r.on ++ (List.replicate 0 9 ++ [[125, 10]].flatten)
theorem rlS_app (r : Rl) : App (rlS r) (rlT r) := ((((App.begin 0 [[97, 99, 116, 111, 114, 32]]).comp (headS_app r.name r.ps)).comp (App.put [32, 123, 10])).comp (bdsS_app 1 [111, 110, 32] r.on)).comp (App.begin 0 [[125, 10]])
def rlsT : List Rl → List Nat
  | [] => []
  | x :: r => rlT x ++ rlsT r
theorem rlsS_app : ∀ l, App (rlsS l) (rlsT l)
  | [] => App.id
  | x :: r => ((rlS_app x).comp (rlsS_app r)).of (fun a => rfl) rfl
def pgT (g : Pg) : List Nat := bdsT 0 [102, 117, 110, 99, 32] g.fns ++ rlsT g.roles
/-- What Show answers is the text of the pieces. -/
theorem showF_text {g : Pg} {T : List Nat} (h : showF g = (T, 0)) : rightP g = true ∧ T = pgT g ∧ T.length ≤ 32768 := by
  unfold showF at h
  split at h
  · rename_i hr
    split at h
    · cases h
    · rename_i hl
      have hl' : (pgS g).long = false := by simpa using hl
      obtain ⟨h1, h2, h3⟩ := ((bdsS_app 0 [102, 117, 110, 99, 32] g.fns).comp (rlsS_app g.roles)) ⟨[], false⟩ hl'
      cases h
      refine ⟨hr, ?_, ?_⟩
      · exact h2
      · exact h3 (by simp)
  · cases h
end Go.Proofs.YteacmanbiamhoaaGreatDoor
namespace Go.Proofs.YteacmanbiamhoaaGreatDoor
set_option linter.unusedVariables false

/-- In whatever line it begins, a rest of a text begins with tokens of that sort. -/
def Lk (R : List Nat) (K : List Tw → Prop) : Prop := ∀ ln, ∃ rs, K rs ∧ Lx R ln rs
theorem Lk.mono {R : List Nat} {K K' : List Tw → Prop} (h : Lk R K) (f : ∀ rs, K rs → K' rs) : Lk R K' := fun ln => by
  obtain ⟨rs, h1, h2⟩ := h ln
  exact ⟨rs, f rs h1, h2⟩
/-- No word goes on there. -/
def Sep (R : List Nat) : Prop := ∀ c r, R = c :: r → wrd c = false
theorem sep_of {c : Nat} {r : List Nat} (h : wrd c = false) : Sep (c :: r) := fun c' r' e => by cases e; exact h
theorem sep_nil : Sep [] := fun c r e => by cases e
/-- A token ahead. -/
def Fs (A : Tw → Prop) (K : List Tw → Prop) : List Tw → Prop := fun ts => ∃ u r, ts = u :: r ∧ A u ∧ K r
/-- Some tokens ahead. -/
def Pr (A : List Tw → Prop) (K : List Tw → Prop) : List Tw → Prop := fun ts => ∃ a r, ts = a ++ r ∧ A a ∧ K r
theorem lk_tok {b R : List Nat} {u : Tk} {K : List Tw → Prop} (h1 : tok (b ++ R) = some u) (h2 : u.e = b.length) (h3 : pas false (b ++ R) = 0) (h : Lk R K) : Lk (b ++ R) (Fs (fun t => t.k = u.k ∧ t.s = u.s ∧ t.n = u.n) K) := by
  intro ln
  obtain ⟨rs, hk, hx⟩ := h (ln + ((b ++ R).take (0 + u.e)).count 10)
  refine ⟨⟨u.k, u.s, u.n, ln + ((b ++ R).take 0).count 10⟩ :: rs, ⟨_, _, rfl, ⟨rfl, rfl, rfl⟩, hk⟩, u, by rw [h3]; exact h1, by rw [h3], ?_⟩
  rw [h3]
  have e : (b ++ R).drop (0 + u.e) = R := by rw [Nat.zero_add, h2, List.drop_left]
  rw [e]
  exact hx
theorem lk_blk {c : Nat} {R : List Nat} {K : List Tw → Prop} (hc : blk c = true) (h : Lk R K) : Lk (c :: R) K := by
  intro ln
  obtain ⟨rs, hk, hx⟩ := h (ln + [c].count 10)
  refine ⟨rs, hk, ?_⟩
  have := lexA_app 1 [c] ln [] (ln + [c].count 10) (by rw [lexA, if_pos (by simp [hc])]) R rs hx
  simpa using this
theorem lk_tabs {R : List Nat} {K : List Tw → Prop} (h : Lk R K) : ∀ n, Lk (List.replicate n 9 ++ R) K
  | 0 => h
  | n + 1 => lk_blk (by decide) (lk_tabs h n)
/-- Signs behind which nothing goes on. -/
def ends : List Nat := [40, 41, 91, 93, 123, 125, 44, 59]
theorem lk_end {c : Nat} {R : List Nat} {K : List Tw → Prop} (hc : c ∈ ends) (h : Lk R K) : Lk (c :: R) (Fs (fun t => isS t [c]) K) := by
  have h1 : tok ([c] ++ R) = some ⟨5, 0, [c], 1⟩ ∧ pas false ([c] ++ R) = 0 := by
    unfold ends at hc
    simp only [List.mem_cons, List.not_mem_nil, or_false] at hc
    rcases hc with rfl | rfl | rfl | rfl | rfl | rfl | rfl | rfl <;> exact ⟨rfl, rfl⟩
  exact (lk_tok h1.1 rfl h1.2 h).mono fun ts ⟨u, r, e, hu, hr⟩ => ⟨u, r, e, ⟨hu.1, hu.2.1⟩, hr⟩
/-- A sign with a blank behind it. -/
theorem sign_tok : ∀ s ∈ signs, ∀ R, tok (s ++ 32 :: R) = some ⟨5, 0, s, s.length⟩ ∧ pas false (s ++ 32 :: R) = 0 := by
  intro s hs R
  unfold signs at hs
  simp only [List.mem_cons, List.not_mem_nil, or_false] at hs
  rcases hs with rfl | rfl | rfl | rfl | rfl | rfl | rfl | rfl | rfl | rfl | rfl | rfl | rfl | rfl | rfl | rfl | rfl | rfl | rfl | rfl | rfl | rfl | rfl | rfl <;> exact ⟨rfl, rfl⟩
theorem lk_sign {s R : List Nat} {K : List Tw → Prop} (hs : s ∈ signs) (h : Lk R K) : Lk (s ++ 32 :: R) (Fs (fun t => isS t s) K) := by
  obtain ⟨h1, h2⟩ := sign_tok s hs R
  exact (lk_tok h1 rfl h2 (lk_blk (by decide) h)).mono fun ts ⟨u, r, e, hu, hr⟩ => ⟨u, r, e, ⟨hu.1, hu.2.1⟩, hr⟩
theorem tw_word : ∀ (s R : List Nat), (∀ y ∈ s, wrd y = true) → Sep R → (s ++ R).takeWhile wrd = s
  | [], R, _, h => by
    cases R with
    | nil => rfl
    | cons c r => simp [h c r rfl]
  | x :: s, R, hw, h => by
    rw [List.cons_append, List.takeWhile_cons, hw x (by simp), if_pos rfl, tw_word s R (fun y hy => hw y (by simp [hy])) h]
theorem ltr_not {x : Nat} (h : ltr x = true) : dig x = false ∧ x ≠ 34 ∧ pasB false x = false ∧ blk x = false := by
  unfold ltr at h
  simp only [decide_eq_true_eq] at h
  refine ⟨by simp [dig]; omega, by omega, by simp [pasB]; omega, by simp [blk]; omega⟩
theorem word_tok {x : Nat} {s R : List Nat} (hx : ltr x = true) (hw : ∀ y ∈ x :: s, wrd y = true) (hR : Sep R) : tok (x :: s ++ R) = some ⟨if x :: s ∈ keys then 4 else 3, 0, x :: s, (x :: s).length⟩ ∧ pas false (x :: s ++ R) = 0 := by
  obtain ⟨h1, h2, h3, h4⟩ := ltr_not hx
  have e := tw_word (x :: s) R hw hR
  refine ⟨?_, ?_⟩
  · rw [List.cons_append] at e ⊢
    unfold tok
    simp only [h1, h2, hx, if_false, if_true, Bool.false_eq_true]
    rw [e]
  · rw [List.cons_append, pas, h3, h4]
    rfl
/-- A name's bytes. -/
theorem nm_parts {s : List Nat} (h : isNm s = true) : ∃ x r, s = x :: r ∧ ltr x = true ∧ (∀ y ∈ s, wrd y = true) ∧ s ∉ keys := by
  unfold isNm at h
  rw [Bool.and_eq_true] at h
  obtain ⟨-, h⟩ := h
  split at h
  · cases h
  · rename_i t ht
    simp only [Bool.and_eq_true, beq_iff_eq] at h
    obtain ⟨⟨h1, h2⟩, h3⟩ := h
    rw [h2, List.drop_zero] at ht
    unfold tok at ht
    split at ht
    · cases ht; cases h1
    · rename_i x r
      split at ht
      · unfold num at ht
        split at ht
        · cases ht; cases h1
        · cases ht
      · split at ht
        · obtain ⟨a, _, rfl⟩ := Option.map_eq_some_iff.1 ht; cases h1
        · split at ht
          · rename_i hl
            cases ht
            dsimp only at h1 h3
            have hwx : wrd x = true := by unfold wrd; rw [hl]; rfl
            have e : (x :: r).takeWhile wrd = x :: r := by
              rw [← tw_eq (x :: r), h3, List.take_length]
            rw [e] at h1
            refine ⟨x, r, rfl, hl, fun y hy => ?_, fun hk => ?_⟩
            · rw [← e] at hy
              exact tw_all _ y hy
            · rw [if_pos hk] at h1
              cases h1
          · obtain ⟨a, _, rfl⟩ := Option.map_eq_some_iff.1 ht; cases h1
theorem lk_name {s R : List Nat} {K : List Tw → Prop} (hs : isNm s = true) (hR : Sep R) (h : Lk R K) : Lk (s ++ R) (Fs (fun t => isN t s) K) := by
  obtain ⟨x, r, rfl, hx, hw, hk⟩ := nm_parts hs
  obtain ⟨h1, h2⟩ := word_tok hx hw hR
  rw [if_neg hk] at h1
  exact (lk_tok h1 rfl h2 h).mono fun ts ⟨u, r, e, hu, hr⟩ => ⟨u, r, e, ⟨hu.1, hu.2.1⟩, hr⟩
theorem key_parts : ∀ s ∈ keys, ∃ x r, s = x :: r ∧ ltr x = true ∧ ∀ y ∈ s, wrd y = true := by
  intro s hs
  unfold keys at hs
  simp only [List.mem_cons, List.not_mem_nil, or_false] at hs
  rcases hs with rfl | rfl | rfl | rfl | rfl | rfl | rfl | rfl | rfl | rfl | rfl | rfl | rfl | rfl | rfl | rfl | rfl | rfl <;> exact ⟨_, _, rfl, by decide, by decide⟩
theorem lk_key {s R : List Nat} {K : List Tw → Prop} (hs : s ∈ keys) (hR : Sep R) (h : Lk R K) : Lk (s ++ R) (Fs (fun t => isK t s) K) := by
  obtain ⟨x, r, rfl, hx, hw⟩ := key_parts s hs
  obtain ⟨h1, h2⟩ := word_tok hx hw hR
  rw [if_pos hs] at h1
  exact (lk_tok h1 rfl h2 h).mono fun ts ⟨u, r, e, hu, hr⟩ => ⟨u, r, e, ⟨hu.1, hu.2.1⟩, hr⟩
/-! Numbers. -/
theorem dvalA : ∀ (l : List Nat) (c : Nat), dval (l ++ [c]) = 10 * dval l + (c - 48) := fun l c => by simp [dval]
theorem digitN (d : Nat) (h : d < 10) : (UInt8.ofNat (48 + d)).toNat = 48 + d := by
  rw [UInt8.toNat_ofNat']
  omega
theorem decN (u : Nat) : dval ((Lib.decDigits u).map UInt8.toNat) = u ∧ (∀ c ∈ (Lib.decDigits u).map UInt8.toNat, dig c = true) ∧ (Lib.decDigits u).map UInt8.toNat ≠ [] := by
  induction u using Nat.strongRecOn with
  | _ u ih =>
    by_cases h : u < 10
    · rw [Lib.decDigits, dif_pos h, List.map_singleton, digitN u h]
      refine ⟨by simp [dval], by simp [dig]; omega, by simp⟩
    · rw [Lib.decDigits, dif_neg h, List.map_append, List.map_singleton, digitN (u % 10) (by omega)]
      obtain ⟨h1, h2, h3⟩ := ih (u / 10) (by omega)
      refine ⟨by rw [dvalA, h1]; omega, ?_, by simp⟩
      intro c hc
      rcases List.mem_append.1 hc with hc | hc
      · exact h2 c hc
      · simp at hc
        subst hc
        simp [dig]
        omega
theorem dig_wrd {c : Nat} (h : dig c = true) : wrd c = true := by unfold wrd; rw [h, Bool.or_true]
theorem tw_dig : ∀ (s R : List Nat), (∀ y ∈ s, dig y = true) → Sep R → (s ++ R).takeWhile dig = s
  | [], R, _, h => by
    cases R with
    | nil => rfl
    | cons c r =>
      have h1 := h c r rfl
      have h2 : dig c = false := by
        cases hd : dig c with
        | false => rfl
        | true => rw [dig_wrd hd] at h1; cases h1
      simp [h2]
  | x :: s, R, hw, h => by
    rw [List.cons_append, List.takeWhile_cons, hw x (by simp), if_pos rfl, tw_dig s R (fun y hy => hw y (by simp [hy])) h]
theorem lk_num {n : Int} {R : List Nat} {K : List Tw → Prop} (h0 : 0 ≤ n) (h1 : n ≤ 9223372036854775807) (hR : Sep R) (h : Lk R K) : Lk (numT n ++ R) (Fs (fun t => t.k = 1 ∧ n = (t.n : Int)) K) := by
  obtain ⟨a, b, c⟩ := decN n.toNat
  have e : numT n = (Lib.decDigits n.toNat).map UInt8.toNat := by
    unfold numT Lib.itoa
    rw [if_neg (by omega)]
  rw [e]
  generalize hd : (Lib.decDigits n.toNat).map UInt8.toNat = D at *
  obtain ⟨x, r, rfl⟩ : ∃ x r, D = x :: r := by
    cases D with
    | nil => exact absurd rfl c
    | cons x r => exact ⟨x, r, rfl⟩
  have hx := b x (by simp)
  have e2 := tw_dig (x :: r) R b hR
  have t1 : tok (x :: r ++ R) = some ⟨1, n.toNat, [], (x :: r).length⟩ := by
    rw [List.cons_append] at e2 ⊢
    unfold tok
    simp only [hx, if_true]
    unfold num
    rw [e2, a, if_pos (by omega)]
  have t2 : pas false (x :: r ++ R) = 0 := by
    have h3 : pasB false x = false ∧ blk x = false := by
      unfold dig at hx
      simp only [decide_eq_true_eq] at hx
      exact ⟨by simp [pasB]; omega, by simp [blk]; omega⟩
    rw [List.cons_append, pas, h3.1, h3.2]
    rfl
  exact (lk_tok t1 rfl t2 h).mono fun ts ⟨u, r, e, hu, hr⟩ => ⟨u, r, e, ⟨hu.1, by rw [hu.2.2]; show n = ((n.toNat : Nat) : Int); omega⟩, hr⟩
theorem lk_quo {s R : List Nat} {K : List Tw → Prop} (h8 : ∀ x ∈ s, x < 256) (h : Lk R K) : Lk (quoW s ++ R) (Fs (fun t => t.k = 2 ∧ t.s = s) K) := by
  have t1 : tok (quoW s ++ R) = some ⟨2, 0, s, (quoW s).length⟩ := by
    unfold quoW
    rw [List.cons_append]
    unfold tok
    simp only
    rw [if_neg (by decide), if_pos trivial, List.append_assoc, List.singleton_append, say_quo s R h8]
    simp
  exact (lk_tok t1 rfl (by unfold quoW; rfl) h).mono fun ts ⟨u, r, e, hu, hr⟩ => ⟨u, r, e, ⟨hu.1, hu.2.1⟩, hr⟩
end Go.Proofs.YteacmanbiamhoaaGreatDoor
namespace Go.Proofs.YteacmanbiamhoaaGreatDoor
set_option linter.unusedVariables false

mutual
/-- Its texts are of bytes. -/
def B8 : Ex → Prop
  | .mk k s z l => (∀ y ∈ s, y < 256) ∧ B8s l
def B8s : List Ex → Prop
  | [] => True
  | x :: r => B8 x ∧ B8s r
end
theorem B8s.at : ∀ {l : List Ex}, B8s l → ∀ y ∈ l, B8 y
  | [], h, y, hy => by cases hy
  | x :: r, h, y, hy => by
    rw [B8s] at h
    rcases List.mem_cons.1 hy with rfl | hy
    · exact h.1
    · exact B8s.at h.2 y hy
/-- Written with that text, it is written as those tokens. -/
def Wr (T : List Nat) (A : List Tw → Prop) : Prop := ∀ R K, Sep R → Lk R K → Lk (T ++ R) (Pr A K)
theorem par_of {A K : List Tw → Prop} {ts : List Tw} (h : Fs (fun t => isS t [40]) (Pr A (Fs (fun t => isS t [41]) K)) ts) : Pr (Par A) K ts := by
  obtain ⟨o, r, rfl, ho, a, r2, rfl, ha, c, r3, rfl, hc, hk⟩ := h
  exact ⟨o :: (a ++ [c]), r3, by simp, ⟨o, a, c, rfl, ho, hc, ha⟩, hk⟩
theorem Wr.par {T : List Nat} {A : List Tw → Prop} (h : Wr T A) : Wr ([40] ++ T ++ [41]) (Par A) := by
  intro R K hR hK
  have e : [40] ++ T ++ [41] ++ R = 40 :: (T ++ 41 :: R) := by simp
  rw [e]
  exact (lk_end (by decide) (h _ _ (sep_of (by decide)) (lk_end (by decide) hK))).mono fun ts => par_of
theorem Wr.part {x : Ex} (h : Wr (exT x) (RX x)) : Wr (partT x) (RP x) := by
  unfold partT RP
  obtain ⟨k, s, n, l⟩ := x
  by_cases hk : k = 7
  · subst hk
    intro R K hR hK
    exact (h.par R K hR hK).mono fun ts ⟨a, r, e, ha, hr⟩ => ⟨a, r, e, .inr ⟨rfl, ha⟩, hr⟩
  · have e1 : isOpK (.mk k s n l) = false := by simp [isOpK, hk]
    have e2 : opK (.mk k s n l) = false := by simp [opK, hk]
    rw [e1]
    intro R K hR hK
    exact (h R K hR hK).mono fun ts ⟨a, r, e, ha, hr⟩ => ⟨a, r, e, .inl ⟨e2, ha⟩, hr⟩
theorem exsT_more : ∀ (l : List Ex) (j : Nat), (∀ x ∈ l, Wr (exT x) (RX x)) → ∀ R K, Sep R → Lk R K → Lk (exsT (j + 1) l ++ R) (Pr (RXr l) K) ∧ Sep (exsT (j + 1) l ++ R)
  | [], j, h, R, K, hR, hK => by
    rw [exsT]
    exact ⟨hK.mono fun ts hk => ⟨[], ts, rfl, by rw [RXr], hk⟩, hR⟩
  | x :: r, j, h, R, K, hR, hK => by
    obtain ⟨h1, h2⟩ := exsT_more r (j + 1) (fun y hy => h y (by simp [hy])) R K hR hK
    have h3 := h x (by simp) _ _ h2 h1
    have e : exsT (j + 1) (x :: r) ++ R = 44 :: 32 :: (exT x ++ (exsT (j + 1 + 1) r ++ R)) := by
      rw [exsT]
      simp [comT]
    rw [e]
    refine ⟨(lk_end (by decide) (lk_blk (by decide) h3)).mono ?_, sep_of (by decide)⟩
    rintro ts ⟨c, r1, rfl, hc, a, r2, rfl, ha, b, r3, rfl, hb, hk⟩
    exact ⟨c :: (a ++ b), r3, by simp, by rw [RXr]; exact ⟨c, a, b, rfl, hc, ha, hb⟩, hk⟩
theorem exsT_all : ∀ (l : List Ex), (∀ x ∈ l, Wr (exT x) (RX x)) → Wr (exsT 0 l) (RXs l)
  | [], h, R, K, hR, hK => by
    rw [exsT]
    exact hK.mono fun ts hk => ⟨[], ts, rfl, by rw [RXs], hk⟩
  | x :: r, h, R, K, hR, hK => by
    obtain ⟨h1, h2⟩ := exsT_more r 0 (fun y hy => h y (by simp [hy])) R K hR hK
    have h3 := h x (by simp) _ _ h2 h1
    have e : exsT 0 (x :: r) ++ R = exT x ++ (exsT (0 + 1) r ++ R) := by
      rw [exsT]
      simp [comT]
    rw [e]
    refine h3.mono ?_
    rintro ts ⟨a, r2, rfl, ha, b, r3, rfl, hb, hk⟩
    exact ⟨a ++ b, r3, by simp, by rw [RXs]; exact ⟨a, b, rfl, ha, hb⟩, hk⟩
theorem ops2_in : ops2.all (fun s => decide (s ∈ sTwo) && decide (s ∈ signs)) = true := by decide
theorem isOp_two {s : List Nat} (h : isOpF s 2 = true) : s ∈ sTwo ∧ s ∈ signs := by
  unfold isOpF at h
  split at h
  · rename_i e; subst e; decide
  · split at h
    · cases h
    · split at h
      · rename_i e
        have := List.all_eq_true.1 ops2_in s e
        simpa using this
      · cases h
theorem isOp_one {s : List Nat} (h : isOpF s 1 = true) : s ∈ sUn ∧ s ∈ signs := by
  unfold isOpF at h
  split at h
  · rename_i e; subst e; decide
  · split at h
    · rename_i e; subst e; decide
    · split at h
      · cases h
      · cases h
theorem wr_one {A : Tw → Prop} {T : List Nat} {B : List Tw → Prop} (h : ∀ R K, Sep R → Lk R K → Lk (T ++ R) (Fs A K)) (hB : ∀ u, A u → B [u]) : Wr T B := fun R K hR hK =>
  (h R K hR hK).mono fun ts ⟨u, r, e, hu, hr⟩ => ⟨[u], r, e, hB u hu, hr⟩
theorem wr_call {T s B : List Nat} {L : List Tw → Prop} {q : List Nat} (hk : q ∈ keys) (hs : isNm s = true) (h : Wr B L) (hT : T = [q ++ [32], s].flatten ++ [40] ++ B ++ [41]) {X : List Tw → Prop} (hX : ∀ t u a, isK t q → isN u s → Par L a → X (t :: u :: a)) : Wr T X := by
  subst hT
  intro R K hR hK
  have e : [q ++ [32], s].flatten ++ [40] ++ B ++ [41] ++ R = q ++ (32 :: (s ++ (40 :: (B ++ 41 :: R)))) := by simp
  rw [e]
  have h1 := h.par R K hR hK
  have e1 : [40] ++ B ++ [41] ++ R = 40 :: (B ++ 41 :: R) := by simp
  rw [e1] at h1
  refine (lk_key hk (sep_of (by decide)) (lk_blk (by decide) (lk_name hs (sep_of (by decide)) h1))).mono ?_
  rintro ts ⟨t, r1, rfl, ht, u, r2, rfl, hu, a, r3, rfl, ha, hk⟩
  exact ⟨t :: u :: a, r3, by simp, hX t u a ht hu ha, hk⟩
theorem exT_wr : ∀ (n : Nat) (x : Ex), SizeOf.sizeOf x < n → OkE x → Nb x → B8 x → Wr (exT x) (RX x) := by
  intro n
  induction n with
  | zero => exact fun x h => absurd h (by omega)
  | succ n ih =>
    rintro ⟨k, s, z, l⟩ hn hok hnb hb
    obtain ⟨hrx, hkids⟩ := hok.kids
    rw [Nb] at hnb
    rw [B8] at hb
    have IH : ∀ y ∈ l, Wr (exT y) (RX y) := fun y hy => ih y (by
      have := List.sizeOf_lt_of_mem hy
      simp at hn
      omega) (hkids y hy) (Nbs.at hnb.2 y hy) (B8s.at hb.2 y hy)
    have hz0 : ¬ k = 1 → ¬ k = 2 → z = 0 := by
      intro h1 h2
      refine Classical.byContradiction fun h0 => ?_
      simp [rightX, h1, h2, h0] at hrx
    have hcase : k = 1 ∨ k = 2 ∨ k = 3 ∨ k = 4 ∨ k = 5 ∨ k = 6 ∨ k = 7 ∨ k = 8 ∨ k = 9 ∨ k = 10 ∨ k = 11 := by
      have := rightX_kind hrx
      omega
    rcases hcase with rfl | rfl | rfl | rfl | rfl | rfl | rfl | rfl | rfl | rfl | rfl
    · have e : exT (.mk 1 s z l) = numT z := by rw [exT]; rfl
      simp [rightX] at hrx
      obtain ⟨⟨rfl, h0⟩, rfl⟩ := hrx
      rw [e]
      refine wr_one (fun R K hR hK => lk_num h0 hnb.1 hR hK) fun u hu => ?_
      rw [RX]
      exact .inl ⟨rfl, rfl, rfl, u, rfl, hu.1, hu.2⟩
    · have e : exT (.mk 2 s z l) = truT (z == 1) := by rw [exT]; rfl
      simp [rightX] at hrx
      obtain ⟨⟨rfl, h0⟩, rfl⟩ := hrx
      rw [e]
      rcases h0 with rfl | rfl
      · refine wr_one (fun R K hR hK => lk_key (s := [102, 97, 108, 115, 101]) (by decide) hR hK) fun u hu => ?_
        rw [RX]
        exact .inr (.inl ⟨rfl, rfl, rfl, u, rfl, .inr ⟨rfl, hu⟩⟩)
      · refine wr_one (fun R K hR hK => lk_key (s := [116, 114, 117, 101]) (by decide) hR hK) fun u hu => ?_
        rw [RX]
        exact .inr (.inl ⟨rfl, rfl, rfl, u, rfl, .inl ⟨rfl, hu⟩⟩)
    · have e : exT (.mk 3 s z l) = quoW s := by rw [exT]; rfl
      obtain rfl := hz0 (by decide) (by decide)
      simp [rightX] at hrx
      subst hrx
      rw [e]
      refine wr_one (fun R K hR hK => lk_quo hb.1 hK) fun u hu => ?_
      rw [RX]
      exact .inr (.inr (.inl ⟨rfl, rfl, rfl, u, rfl, hu.1, hu.2⟩))
    · have e : exT (.mk 4 s z l) = s := by rw [exT]; rfl
      obtain rfl := hz0 (by decide) (by decide)
      simp [rightX] at hrx
      obtain ⟨h1, rfl⟩ := hrx
      rw [e]
      refine wr_one (fun R K hR hK => lk_name h1 hR hK) fun u hu => ?_
      rw [RX]
      exact .inr (.inr (.inr (.inl ⟨rfl, rfl, rfl, u, rfl, hu⟩)))
    · have e : exT (.mk 5 s z l) = [115, 101, 108, 102] := by rw [exT]; rfl
      obtain rfl := hz0 (by decide) (by decide)
      simp [rightX] at hrx
      obtain ⟨rfl, rfl⟩ := hrx
      rw [e]
      refine wr_one (fun R K hR hK => lk_key (by decide) hR hK) fun u hu => ?_
      rw [RX]
      exact .inr (.inr (.inr (.inr (.inl ⟨rfl, rfl, rfl, rfl, u, rfl, hu⟩))))
    · have e : exT (.mk 6 s z l) = [40] ++ exsT 0 l ++ [41] := by rw [exT]; rfl
      obtain rfl := hz0 (by decide) (by decide)
      simp [rightX] at hrx
      obtain ⟨rfl, h1⟩ := hrx
      rw [e]
      refine fun R K hR hK => ((exsT_all l IH).par R K hR hK).mono fun ts ⟨a, r, e, ha, hr⟩ => ⟨a, r, e, ?_, hr⟩
      rw [RX]
      exact .inr (.inr (.inr (.inr (.inr (.inl ⟨rfl, rfl, rfl, h1, ha⟩)))))
    · have e : exT (.mk 7 s z l) = opT s l := by rw [exT]; rfl
      obtain rfl := hz0 (by decide) (by decide)
      simp [rightX] at hrx
      rw [e]
      match l, isOpF_len hrx, IH, hrx with
      | [x1], _, IH, hrx =>
        obtain ⟨hs1, hs2⟩ := isOp_one hrx
        intro R K hR hK
        have e1 : opT s [x1] ++ R = s ++ 32 :: (partT x1 ++ R) := by
          rw [opT]
          unfold partT
          simp
        rw [e1]
        refine (lk_sign hs2 ((IH x1 (by simp)).part R K hR hK)).mono ?_
        rintro ts ⟨o, r1, rfl, ho, a, r2, rfl, ha, hk⟩
        refine ⟨o :: a, r2, rfl, ?_, hk⟩
        rw [RX]
        exact .inr (.inr (.inr (.inr (.inr (.inr (.inl ⟨rfl, rfl, hs1, o, a, rfl, ho, by rw [RPs]; exact ⟨a, [], rfl, ha, by rw [RPs]⟩⟩))))))
      | [x1, x2], _, IH, hrx =>
        obtain ⟨hs1, hs2⟩ := isOp_two hrx
        intro R K hR hK
        have e1 : opT s [x1, x2] ++ R = partT x1 ++ 32 :: (s ++ 32 :: (partT x2 ++ R)) := by
          rw [opT]
          unfold partT
          simp
        rw [e1]
        refine ((IH x1 (by simp)).part _ _ (sep_of (by decide)) (lk_blk (by decide) (lk_sign hs2 ((IH x2 (by simp)).part R K hR hK)))).mono ?_
        rintro ts ⟨a, r0, rfl, ha, o, r1, rfl, ho, b, r2, rfl, hb, hk⟩
        refine ⟨a ++ o :: b, r2, by simp, ?_, hk⟩
        rw [RX]
        exact .inr (.inr (.inr (.inr (.inr (.inr (.inr (.inl ⟨rfl, rfl, hs1, a, o, b, rfl, ho, by rw [RPs]; exact ⟨a, [b], rfl, ha, by rw [RPs]; exact ⟨b, [], rfl, hb, by rw [RPs]⟩⟩⟩)))))))
    · have e : exT (.mk 8 s z l) = atT l := by rw [exT]; rfl
      obtain rfl := hz0 (by decide) (by decide)
      simp [rightX] at hrx
      obtain ⟨rfl, h2⟩ := hrx
      rw [e]
      match l, h2, IH with
      | [x1, x2], _, IH =>
        intro R K hR hK
        have e1 : atT [x1, x2] ++ R = partT x1 ++ 91 :: (exT x2 ++ 93 :: R) := by
          rw [atT]
          unfold partT
          simp
        rw [e1]
        refine ((IH x1 (by simp)).part _ _ (sep_of (by decide)) (lk_end (by decide) (IH x2 (by simp) _ _ (sep_of (by decide)) (lk_end (by decide) hK)))).mono ?_
        rintro ts ⟨a, r0, rfl, ha, o, r1, rfl, ho, b, r2, rfl, hb, c, r3, rfl, hc, hk⟩
        refine ⟨a ++ o :: (b ++ [c]), r3, by simp, ?_, hk⟩
        rw [RX]
        exact .inr (.inr (.inr (.inr (.inr (.inr (.inr (.inr (.inl ⟨rfl, rfl, rfl, a, o, b, c, rfl, ho, hc, by rw [RPX]; exact ⟨ha, by rw [RXs]; exact ⟨b, [], by simp, hb, by rw [RXr]⟩, rfl⟩⟩))))))))
    · have e : exT (.mk 9 s z l) = [108, 101, 110] ++ [40] ++ exsT 0 l ++ [41] := by rw [exT]; rfl
      obtain rfl := hz0 (by decide) (by decide)
      simp [rightX] at hrx
      obtain ⟨rfl, h1⟩ := hrx
      rw [e]
      intro R K hR hK
      have e1 : [108, 101, 110] ++ [40] ++ exsT 0 l ++ [41] ++ R = [108, 101, 110] ++ ([40] ++ exsT 0 l ++ [41] ++ R) := by simp
      rw [e1]
      refine (lk_key (s := [108, 101, 110]) (by decide) (sep_of (by decide)) ((exsT_all l IH).par R K hR hK)).mono ?_
      rintro ts ⟨t, r1, rfl, ht, a, r2, rfl, ha, hk⟩
      refine ⟨t :: a, r2, rfl, ?_, hk⟩
      rw [RX]
      exact .inr (.inr (.inr (.inr (.inr (.inr (.inr (.inr (.inr (.inl ⟨rfl, rfl, rfl, h1, t, a, rfl, ht, ha⟩)))))))))
    · have e : exT (.mk 10 s z l) = [[99, 97, 108, 108] ++ [32], s].flatten ++ [40] ++ exsT 0 l ++ [41] := by rw [exT]; rfl
      obtain rfl := hz0 (by decide) (by decide)
      simp [rightX] at hrx
      refine wr_call (by decide) hrx (exsT_all l IH) e fun t u a ht hu ha => ?_
      rw [RX]
      exact .inr (.inr (.inr (.inr (.inr (.inr (.inr (.inr (.inr (.inr (.inl ⟨rfl, rfl, t, u, a, rfl, ht, hu, ha⟩))))))))))
    · have e : exT (.mk 11 s z l) = [[115, 112, 97, 119, 110] ++ [32], s].flatten ++ [40] ++ exsT 0 l ++ [41] := by rw [exT]; rfl
      obtain rfl := hz0 (by decide) (by decide)
      simp [rightX] at hrx
      refine wr_call (by decide) hrx (exsT_all l IH) e fun t u a ht hu ha => ?_
      rw [RX]
      exact .inr (.inr (.inr (.inr (.inr (.inr (.inr (.inr (.inr (.inr (.inr ⟨rfl, rfl, t, u, a, rfl, ht, hu, ha⟩))))))))))
end Go.Proofs.YteacmanbiamhoaaGreatDoor
namespace Go.Proofs.YteacmanbiamhoaaGreatDoor
set_option linter.unusedVariables false

mutual
def B8S : Sm → Prop
  | .mk k s x b e ln => B8s x ∧ B8Ss b ∧ B8Ss e
def B8Ss : List Sm → Prop
  | [] => True
  | x :: r => B8S x ∧ B8Ss r
end
theorem B8Ss.at : ∀ {l : List Sm}, B8Ss l → ∀ y ∈ l, B8S y
  | [], h, y, hy => by cases hy
  | x :: r, h, y, hy => by
    rw [B8Ss] at h
    rcases List.mem_cons.1 hy with rfl | hy
    · exact h.1
    · exact B8Ss.at h.2 y hy
/-- Written so, a statement is read as one that is the same but for lines. -/
def WrS (lv : Nat) (x : Sm) : Prop := ∀ R K, Lk R K → Lk (smT lv x ++ R) (fun ts => ∃ x', smB false x x' = true ∧ Pr (RS x') K ts)
theorem smsT_wr (lv : Nat) : ∀ (l : List Sm), (∀ x ∈ l, WrS lv x) → ∀ R K, Lk R K → Lk (smsT lv l ++ R) (fun ts => ∃ l', smsB false l l' = true ∧ Pr (RSs l') K ts)
  | [], h, R, K, hK => by
    rw [smsT]
    exact hK.mono fun ts hk => ⟨[], by rw [smsB], [], ts, rfl, by rw [RSs], hk⟩
  | x :: r, h, R, K, hK => by
    rw [smsT, List.append_assoc]
    refine (h x (by simp) _ _ (smsT_wr lv r (fun y hy => h y (by simp [hy])) R K hK)).mono ?_
    rintro ts ⟨x', hx, a, r1, rfl, ha, l', hl, b, r2, rfl, hb, hk⟩
    exact ⟨x' :: l', by rw [smsB, hx, hl]; rfl, a ++ b, r2, by simp, by rw [RSs]; exact ⟨a, b, rfl, ha, hb⟩, hk⟩
theorem brace_wr (lv : Nat) (l : List Sm) (h : ∀ x ∈ l, WrS (lv + 1) x) (R : List Nat) (K : List Tw → Prop) (hK : Lk R K) : Lk (32 :: 123 :: 10 :: (smsT (lv + 1) l ++ (List.replicate lv 9 ++ 125 :: R))) (fun ts => ∃ l', smsB false l l' = true ∧ Pr (Brc (RSs l')) K ts) := by
  refine (lk_blk (by decide) (lk_end (by decide) (lk_blk (by decide) (smsT_wr (lv + 1) l h _ _ (lk_tabs (lk_end (by decide) hK) lv))))).mono ?_
  rintro ts ⟨o, r0, rfl, ho, l', hl, a, r1, rfl, ha, c, r2, rfl, hc, hk⟩
  exact ⟨l', hl, o :: (a ++ [c]), r2, by simp, ⟨o, a, c, rfl, ho, hc, ha⟩, hk⟩
theorem len_one {α : Type} {l : List α} (h : l.length = 1) : ∃ y, l = [y] := List.length_eq_one_iff.1 h
theorem smB_mk {k : Nat} {s : List Nat} {x : List Ex} {b b' e e' : List Sm} {ln ln' : Int} (hb : smsB false b b' = true) (he : smsB false e e' = true) : smB false (.mk k s x b e ln) (.mk k s x b' e' ln') = true := by
  rw [smB, hb, he, exsB_refl]
  simp
theorem smT_wr : ∀ (n : Nat) (x : Sm) (d lv : Nat), SizeOf.sizeOf x < n → OkS d x → NbS x → B8S x → WrS lv x := by
  intro n
  induction n with
  | zero => exact fun x d lv h => absurd h (by omega)
  | succ n ih =>
    rintro ⟨k, s, x, b, e, ln⟩ d lv hn hok hnb h8
    obtain ⟨hd, hrs, hx, hb, he⟩ := hok.parts
    rw [NbS] at hnb
    rw [B8S] at h8
    have IX : ∀ y ∈ x, Wr (exT y) (RX y) := fun y hy => exT_wr _ y (Nat.lt_succ_self _) (hx y hy) (Nbs.at hnb.1 y hy) (B8s.at h8.1 y hy)
    have IB : ∀ lv, ∀ y ∈ b, WrS lv y := fun lv y hy => ih y (d + 1) lv (by
      have := List.sizeOf_lt_of_mem hy
      simp at hn
      omega) (hb y hy) (NbSs.at hnb.2.1 y hy) (B8Ss.at h8.2.1 y hy)
    have IE : ∀ lv, ∀ y ∈ e, WrS lv y := fun lv y hy => ih y (d + 1) lv (by
      have := List.sizeOf_lt_of_mem hy
      simp at hn
      omega) (he y hy) (NbSs.at hnb.2.2 y hy) (B8Ss.at h8.2.2 y hy)
    clear ih hx hb he hnb h8 hn
    have nil : smsB false [] [] = true := by rw [smsB]
    have hcase : k = 1 ∨ k = 2 ∨ k = 3 ∨ k = 4 ∨ k = 5 ∨ k = 6 ∨ k = 7 ∨ k = 8 ∨ k = 9 := by
      by_cases h1 : k = 1 ∨ k = 2 ∨ k = 3 ∨ k = 4 ∨ k = 5 ∨ k = 6 ∨ k = 7 ∨ k = 8 ∨ k = 9
      · exact h1
      · simp only [not_or] at h1
        obtain ⟨a1, a2, a3, a4, a5, a6, a7, a8, a9⟩ := h1
        simp [rightS, a1, a2, a3, a4, a5, a6, a7, a8, a9] at hrs
    have hbe : k ≠ 3 → k ≠ 4 → b = [] ∧ e = [] := by
      intro h3 h4
      have : ¬ (0 < b.length ∨ 0 < e.length) := fun hh => by simp [rightS, h3, h4, hh] at hrs
      exact ⟨List.eq_nil_of_length_eq_zero (by omega), List.eq_nil_of_length_eq_zero (by omega)⟩
    intro R K hK
    rcases hcase with rfl | rfl | rfl | rfl | rfl | rfl | rfl | rfl | rfl
    · obtain ⟨rfl, rfl⟩ := hbe (by decide) (by decide)
      simp [rightS] at hrs
      obtain ⟨hs, hl⟩ := hrs
      obtain ⟨y, rfl⟩ := len_one hl
      have e1 : smT lv (.mk 1 s [y] [] [] ln) ++ R = List.replicate lv 9 ++ ([108, 101, 116] ++ 32 :: (s ++ 32 :: ([61] ++ 32 :: (exT y ++ 59 :: 10 :: R)))) := by
        rw [smT]
        simp [hdE]
      rw [e1]
      refine (lk_tabs (lk_key (by decide) (sep_of (by decide)) (lk_blk (by decide) (lk_name hs (sep_of (by decide)) (lk_blk (by decide) (lk_sign (by decide) (IX y (by simp) _ _ (sep_of (by decide)) (lk_end (by decide) (lk_blk (by decide) hK)))))))) lv).mono ?_
      rintro ts ⟨t, r1, rfl, ht, u, r2, rfl, hu, v, r3, rfl, hv, a, r4, rfl, ha, w, r5, rfl, hw, hk⟩
      refine ⟨.mk 1 s [y] [] [] (t.ln : Int), smB_mk nil nil, t :: u :: v :: (a ++ [w]), r5, by simp, ?_, hk⟩
      rw [RS]
      exact ⟨⟨t, _, rfl, rfl⟩, .inl ⟨rfl, rfl, rfl, t, u, v, a, w, y, rfl, ht, hu, hv, rfl, ha, hw⟩⟩
    · obtain ⟨rfl, rfl⟩ := hbe (by decide) (by decide)
      simp [rightS] at hrs
      obtain ⟨hs, hl⟩ := hrs
      obtain ⟨y, rfl⟩ := len_one hl
      have e1 : smT lv (.mk 2 s [y] [] [] ln) ++ R = List.replicate lv 9 ++ ([115, 101, 116] ++ 32 :: (s ++ 32 :: ([61] ++ 32 :: (exT y ++ 59 :: 10 :: R)))) := by
        rw [smT]
        simp [hdE]
      rw [e1]
      refine (lk_tabs (lk_key (by decide) (sep_of (by decide)) (lk_blk (by decide) (lk_name hs (sep_of (by decide)) (lk_blk (by decide) (lk_sign (by decide) (IX y (by simp) _ _ (sep_of (by decide)) (lk_end (by decide) (lk_blk (by decide) hK)))))))) lv).mono ?_
      rintro ts ⟨t, r1, rfl, ht, u, r2, rfl, hu, v, r3, rfl, hv, a, r4, rfl, ha, w, r5, rfl, hw, hk⟩
      refine ⟨.mk 2 s [y] [] [] (t.ln : Int), smB_mk nil nil, t :: u :: v :: (a ++ [w]), r5, by simp, ?_, hk⟩
      rw [RS]
      exact ⟨⟨t, _, rfl, rfl⟩, .inr (.inl ⟨rfl, rfl, rfl, t, u, v, a, w, y, rfl, ht, hu, hv, rfl, ha, hw⟩)⟩
    · simp [rightS] at hrs
      obtain ⟨rfl, hl⟩ := hrs
      obtain ⟨y, rfl⟩ := len_one hl
      by_cases hee : e = []
      · subst hee
        have e1 : smT lv (.mk 3 [] [y] b [] ln) ++ R = List.replicate lv 9 ++ ([105, 102] ++ 32 :: 40 :: (exT y ++ 41 :: (32 :: 123 :: 10 :: (smsT (lv + 1) b ++ (List.replicate lv 9 ++ 125 :: 10 :: R))))) := by
          rw [smT]
          simp [hdE]
        rw [e1]
        refine (lk_tabs (lk_key (by decide) (sep_of (by decide)) (lk_blk (by decide) (lk_end (by decide) (IX y (by simp) _ _ (sep_of (by decide)) (lk_end (by decide) (brace_wr lv b (IB _) _ _ (lk_blk (by decide) hK))))))) lv).mono ?_
        rintro ts ⟨t, r1, rfl, ht, o, r2, rfl, ho, a, r3, rfl, ha, c, r4, rfl, hc, b', hb', B, r5, rfl, hB, hk⟩
        refine ⟨.mk 3 [] [y] b' [] (t.ln : Int), smB_mk hb' nil, t :: o :: (a ++ c :: (B ++ [])), r5, by simp, ?_, hk⟩
        rw [RS]
        exact ⟨⟨t, _, rfl, rfl⟩, .inr (.inr (.inl ⟨rfl, rfl, t, o, a, c, B, [], y, rfl, ht, ho, rfl, ha, hc, hB, .inl ⟨rfl, rfl⟩⟩))⟩
      · have e1 : smT lv (.mk 3 [] [y] b e ln) ++ R = List.replicate lv 9 ++ ([105, 102] ++ 32 :: 40 :: (exT y ++ 41 :: (32 :: 123 :: 10 :: (smsT (lv + 1) b ++ (List.replicate lv 9 ++ 125 :: (32 :: ([101, 108, 115, 101] ++ (32 :: 123 :: 10 :: (smsT (lv + 1) e ++ (List.replicate lv 9 ++ 125 :: 10 :: R)))))))))) := by
          have : 0 < e.length := List.length_pos_iff.2 hee
          rw [smT, if_pos (.inl rfl), if_pos this]
          simp [hdE]
        rw [e1]
        refine (lk_tabs (lk_key (by decide) (sep_of (by decide)) (lk_blk (by decide) (lk_end (by decide) (IX y (by simp) _ _ (sep_of (by decide)) (lk_end (by decide) (brace_wr lv b (IB _) _ _ (lk_blk (by decide) (lk_key (by decide) (sep_of (by decide)) (brace_wr lv e (IE _) _ _ (lk_blk (by decide) hK)))))))))) lv).mono ?_
        rintro ts ⟨t, r1, rfl, ht, o, r2, rfl, ho, a, r3, rfl, ha, c, r4, rfl, hc, b', hb', B, r5, rfl, hB, u, r6, rfl, hu, e', he', E, r7, rfl, hE, hk⟩
        refine ⟨.mk 3 [] [y] b' e' (t.ln : Int), smB_mk hb' he', t :: o :: (a ++ c :: (B ++ u :: E)), r7, by simp, ?_, hk⟩
        rw [RS]
        exact ⟨⟨t, _, rfl, rfl⟩, .inr (.inr (.inl ⟨rfl, rfl, t, o, a, c, B, u :: E, y, rfl, ht, ho, rfl, ha, hc, hB, .inr ⟨u, E, rfl, hu, hE⟩⟩))⟩
    · simp [rightS] at hrs
      obtain ⟨⟨rfl, hl⟩, rfl⟩ := hrs
      obtain ⟨y, rfl⟩ := len_one hl
      have e1 : smT lv (.mk 4 [] [y] b [] ln) ++ R = List.replicate lv 9 ++ ([119, 104, 105, 108, 101] ++ 32 :: 40 :: (exT y ++ 41 :: (32 :: 123 :: 10 :: (smsT (lv + 1) b ++ (List.replicate lv 9 ++ 125 :: 10 :: R))))) := by
        rw [smT]
        simp [hdE]
      rw [e1]
      refine (lk_tabs (lk_key (by decide) (sep_of (by decide)) (lk_blk (by decide) (lk_end (by decide) (IX y (by simp) _ _ (sep_of (by decide)) (lk_end (by decide) (brace_wr lv b (IB _) _ _ (lk_blk (by decide) hK))))))) lv).mono ?_
      rintro ts ⟨t, r1, rfl, ht, o, r2, rfl, ho, a, r3, rfl, ha, c, r4, rfl, hc, b', hb', B, r5, rfl, hB, hk⟩
      refine ⟨.mk 4 [] [y] b' [] (t.ln : Int), smB_mk hb' nil, t :: o :: (a ++ c :: B), r5, by simp, ?_, hk⟩
      rw [RS]
      exact ⟨⟨t, _, rfl, rfl⟩, .inr (.inr (.inr (.inl ⟨rfl, rfl, rfl, t, o, a, c, B, y, rfl, ht, ho, rfl, ha, hc, hB⟩)))⟩
    · obtain ⟨rfl, rfl⟩ := hbe (by decide) (by decide)
      simp [rightS] at hrs
      obtain ⟨rfl, hl⟩ := hrs
      obtain ⟨y, rfl⟩ := len_one hl
      have e1 : smT lv (.mk 5 [] [y] [] [] ln) ++ R = List.replicate lv 9 ++ ([114, 101, 116, 117, 114, 110] ++ 32 :: (exT y ++ 59 :: 10 :: R)) := by
        rw [smT]
        simp [hdE]
      rw [e1]
      refine (lk_tabs (lk_key (by decide) (sep_of (by decide)) (lk_blk (by decide) (IX y (by simp) _ _ (sep_of (by decide)) (lk_end (by decide) (lk_blk (by decide) hK))))) lv).mono ?_
      rintro ts ⟨t, r1, rfl, ht, a, r4, rfl, ha, w, r5, rfl, hw, hk⟩
      refine ⟨.mk 5 [] [y] [] [] (t.ln : Int), smB_mk nil nil, t :: (a ++ [w]), r5, by simp, ?_, hk⟩
      rw [RS]
      exact ⟨⟨t, _, rfl, rfl⟩, .inr (.inr (.inr (.inr (.inl ⟨rfl, rfl, rfl, rfl, t, a, w, y, rfl, ht, rfl, ha, hw⟩))))⟩
    · obtain ⟨rfl, rfl⟩ := hbe (by decide) (by decide)
      simp [rightS] at hrs
      obtain ⟨hs, hl⟩ := hrs
      obtain ⟨y, l, rfl⟩ : ∃ y l, x = y :: l := by
        cases x with
        | nil => simp at hl
        | cons y l => exact ⟨y, l, rfl⟩
      have e1 : smT lv (.mk 6 s (y :: l) [] [] ln) ++ R = List.replicate lv 9 ++ ([115, 101, 110, 100] ++ 32 :: (partT y ++ 32 :: (s ++ ([40] ++ exsT 0 l ++ [41] ++ 59 :: 10 :: R)))) := by
        rw [smT]
        simp [hdE]
      rw [e1]
      refine (lk_tabs (lk_key (by decide) (sep_of (by decide)) (lk_blk (by decide) ((IX y (by simp)).part _ _ (sep_of (by decide)) (lk_blk (by decide) (lk_name hs (sep_of (by decide)) ((exsT_all l (fun z hz => IX z (by simp [hz]))).par _ _ (sep_of (by decide)) (lk_end (by decide) (lk_blk (by decide) hK)))))))) lv).mono ?_
      rintro ts ⟨t, r1, rfl, ht, a, r2, rfl, ha, u, r3, rfl, hu, L, r4, rfl, hL, w, r5, rfl, hw, hk⟩
      refine ⟨.mk 6 s (y :: l) [] [] (t.ln : Int), smB_mk nil nil, t :: (a ++ u :: (L ++ [w])), r5, by simp, ?_, hk⟩
      rw [RS]
      exact ⟨⟨t, _, rfl, rfl⟩, .inr (.inr (.inr (.inr (.inr (.inl ⟨rfl, rfl, rfl, t, a, u, L, w, y, l, rfl, ht, rfl, ha, hu, hL, hw⟩)))))⟩
    · obtain ⟨rfl, rfl⟩ := hbe (by decide) (by decide)
      simp [rightS] at hrs
      have e1 : smT lv (.mk 7 s x [] [] ln) ++ R = List.replicate lv 9 ++ ([98, 101, 99, 111, 109, 101] ++ 32 :: (s ++ ([40] ++ exsT 0 x ++ [41] ++ 59 :: 10 :: R))) := by
        rw [smT]
        simp
      rw [e1]
      refine (lk_tabs (lk_key (by decide) (sep_of (by decide)) (lk_blk (by decide) (lk_name hrs (sep_of (by decide)) ((exsT_all x IX).par _ _ (sep_of (by decide)) (lk_end (by decide) (lk_blk (by decide) hK)))))) lv).mono ?_
      rintro ts ⟨t, r1, rfl, ht, u, r3, rfl, hu, L, r4, rfl, hL, w, r5, rfl, hw, hk⟩
      refine ⟨.mk 7 s x [] [] (t.ln : Int), smB_mk nil nil, t :: u :: (L ++ [w]), r5, by simp, ?_, hk⟩
      rw [RS]
      exact ⟨⟨t, _, rfl, rfl⟩, .inr (.inr (.inr (.inr (.inr (.inr (.inl ⟨rfl, rfl, rfl, t, u, L, w, rfl, ht, hu, hL, hw⟩))))))⟩
    · obtain ⟨rfl, rfl⟩ := hbe (by decide) (by decide)
      simp [rightS] at hrs
      obtain ⟨rfl, rfl⟩ := hrs
      have e1 : smT lv (.mk 8 [] [] [] [] ln) ++ R = List.replicate lv 9 ++ ([115, 116, 111, 112] ++ 59 :: 10 :: R) := by
        rw [smT]
        simp
      rw [e1]
      refine (lk_tabs (lk_key (by decide) (sep_of (by decide)) (lk_end (by decide) (lk_blk (by decide) hK))) lv).mono ?_
      rintro ts ⟨t, r1, rfl, ht, w, r5, rfl, hw, hk⟩
      refine ⟨.mk 8 [] [] [] [] (t.ln : Int), smB_mk nil nil, [t, w], r5, by simp, ?_, hk⟩
      rw [RS]
      exact ⟨⟨t, _, rfl, rfl⟩, .inr (.inr (.inr (.inr (.inr (.inr (.inr (.inl ⟨rfl, rfl, rfl, rfl, rfl, t, w, rfl, ht, hw⟩)))))))⟩
    · obtain ⟨rfl, rfl⟩ := hbe (by decide) (by decide)
      simp [rightS] at hrs
      obtain ⟨rfl, hl⟩ := hrs
      obtain ⟨y, rfl⟩ := len_one hl
      have e1 : smT lv (.mk 9 [] [y] [] [] ln) ++ R = List.replicate lv 9 ++ (exT y ++ 59 :: 10 :: R) := by
        rw [smT]
        simp [hdE]
      rw [e1]
      refine (lk_tabs (IX y (by simp) _ _ (sep_of (by decide)) (lk_end (by decide) (lk_blk (by decide) hK))) lv).mono ?_
      rintro ts ⟨a, r1, rfl, ha, w, r5, rfl, hw, hk⟩
      obtain ⟨t, r, rfl⟩ : ∃ t r, a = t :: r := by
        cases a with
        | nil => exact absurd rfl (RX_ne ha)
        | cons t r => exact ⟨t, r, rfl⟩
      refine ⟨.mk 9 [] [y] [] [] (t.ln : Int), smB_mk nil nil, t :: r ++ [w], r5, by simp, ?_, hk⟩
      rw [RS]
      exact ⟨⟨t, r ++ [w], rfl, rfl⟩, .inr (.inr (.inr (.inr (.inr (.inr (.inr (.inr ⟨rfl, rfl, rfl, rfl, t :: r, w, y, rfl, rfl, ha, hw⟩)))))))⟩
end Go.Proofs.YteacmanbiamhoaaGreatDoor
namespace Go.Proofs.YteacmanbiamhoaaGreatDoor
set_option linter.unusedVariables false

theorem namesT_more : ∀ (l : List (List Nat)) (j : Nat), (∀ x ∈ l, isNm x = true) → ∀ R K, Sep R → Lk R K → Lk (namesT (j + 1) l ++ R) (Pr (CR nmW l) K) ∧ Sep (namesT (j + 1) l ++ R)
  | [], j, h, R, K, hR, hK => ⟨hK.mono fun ts hk => ⟨[], ts, rfl, rfl, hk⟩, hR⟩
  | x :: r, j, h, R, K, hR, hK => by
    obtain ⟨h1, h2⟩ := namesT_more r (j + 1) (fun y hy => h y (by simp [hy])) R K hR hK
    have e : namesT (j + 1) (x :: r) ++ R = 44 :: 32 :: (x ++ (namesT (j + 1 + 1) r ++ R)) := by simp [namesT, comT]
    rw [e]
    refine ⟨(lk_end (by decide) (lk_blk (by decide) (lk_name (h x (by simp)) h2 h1))).mono ?_, sep_of (by decide)⟩
    rintro ts ⟨c, r1, rfl, hc, u, r2, rfl, hu, b, r3, rfl, hb, hk⟩
    exact ⟨c :: ([u] ++ b), r3, by simp, ⟨c, [u], b, rfl, hc, ⟨u, rfl, hu⟩, hb⟩, hk⟩
theorem namesT_all : ∀ (l : List (List Nat)), (∀ x ∈ l, isNm x = true) → Wr (namesT 0 l) (CS nmW l)
  | [], h, R, K, hR, hK => hK.mono fun ts hk => ⟨[], ts, rfl, rfl, hk⟩
  | x :: r, h, R, K, hR, hK => by
    obtain ⟨h1, h2⟩ := namesT_more r 0 (fun y hy => h y (by simp [hy])) R K hR hK
    have e : namesT 0 (x :: r) ++ R = x ++ (namesT (0 + 1) r ++ R) := by simp [namesT, comT]
    rw [e]
    refine (lk_name (h x (by simp)) h2 h1).mono ?_
    rintro ts ⟨u, r2, rfl, hu, b, r3, rfl, hb, hk⟩
    exact ⟨[u] ++ b, r3, by simp, ⟨[u], b, rfl, ⟨u, rfl, hu⟩, hb⟩, hk⟩
theorem headR_parts {s : List Nat} {ps : List (List Nat)} (h : headR s ps = true) : isNm s = true ∧ ps.length ≤ 30 ∧ ∀ x ∈ ps, isNm x = true := by
  unfold headR at h
  simp only [Bool.and_eq_true, decide_eq_true_eq, List.all_eq_true] at h
  exact ⟨h.1.1, h.1.2, h.2⟩
/-- A head, and braces behind it. -/
theorem hd_wr {s : List Nat} {ps : List (List Nat)} (h : headR s ps = true) {R : List Nat} {K : List Tw → Prop} (hK : Lk R K) (hR : Sep R) : Lk (headT s ps ++ R) (fun ts => ∃ u L r, ts = u :: (L ++ r) ∧ isN u s ∧ Par (CS nmW ps) L ∧ K r) := by
  obtain ⟨h1, h2, h3⟩ := headR_parts h
  have e : headT s ps ++ R = s ++ ([40] ++ namesT 0 ps ++ [41] ++ R) := by simp [headT]
  rw [e]
  refine (lk_name h1 (sep_of (by decide)) ((namesT_all ps h3).par R K hR hK)).mono ?_
  rintro ts ⟨u, r2, rfl, hu, L, r3, rfl, hL, hk⟩
  exact ⟨u, L, r3, rfl, hu, hL, hk⟩
theorem bd_wr {q : List Nat} (hq : q ∈ keys) {lv : Nat} {b : Bd} (hh : headR b.name b.ps = true) (hst : ∀ x ∈ b.st, WrS (lv + 1) x) {R : List Nat} {K : List Tw → Prop} (hK : Lk R K) :
    Lk (bdT lv (q ++ [32]) b ++ R) (fun ts => ∃ b', bdB false b b' = true ∧ ∃ k a r, ts = k :: (a ++ r) ∧ isK k q ∧ b'.ln = (k.ln : Int) ∧ RBd b' a ∧ K r) := by
  have e : bdT lv (q ++ [32]) b ++ R = List.replicate lv 9 ++ (q ++ 32 :: (headT b.name b.ps ++ (32 :: 123 :: 10 :: (smsT (lv + 1) b.st ++ (List.replicate lv 9 ++ 125 :: 10 :: R))))) := by simp [bdT, braceT]
  rw [e]
  refine (lk_tabs (lk_key hq (sep_of (by decide)) (lk_blk (by decide) (hd_wr hh (brace_wr lv b.st hst _ _ (lk_blk (by decide) hK)) (sep_of (by decide))))) lv).mono ?_
  rintro ts ⟨t, r1, rfl, ht, u, L, r2, rfl, hu, hL, st', hs, B, r3, rfl, hB, hk⟩
  refine ⟨⟨b.name, b.ps, st', (t.ln : Int)⟩, by unfold bdB; rw [hs]; simp, t, u :: (L ++ B), r3, by simp, ht, rfl, ⟨u, L, B, rfl, hu, hL, hB⟩, hk⟩
theorem ons_wr : ∀ (l : List Bd), (∀ b ∈ l, headR b.name b.ps = true ∧ ∀ x ∈ b.st, WrS 2 x) → ∀ R K, Lk R K → Lk (bdsT 1 [111, 110, 32] l ++ R) (fun ts => ∃ l', bdsB false l l' = true ∧ Pr (ROs l') K ts)
  | [], h, R, K, hK => hK.mono fun ts hk => ⟨[], by rw [bdsB], [], ts, rfl, rfl, hk⟩
  | b :: r, h, R, K, hK => by
    rw [bdsT, List.append_assoc]
    refine (bd_wr (q := [111, 110]) (by decide) (h b (by simp)).1 (h b (by simp)).2 (ons_wr r (fun y hy => h y (by simp [hy])) R K hK)).mono ?_
    rintro ts ⟨b', hb, k, a, r1, rfl, hk, hl, ha, l', hl', c, r2, rfl, hc, hK⟩
    exact ⟨b' :: l', by rw [bdsB, hb, hl']; rfl, k :: (a ++ c), r2, by simp, ⟨k, a, c, rfl, hk, hl, ha, hc⟩, hK⟩
def GdR (r : Rl) : Prop := headR r.name r.ps = true ∧ ∀ b ∈ r.on, headR b.name b.ps = true ∧ ∀ x ∈ b.st, WrS 2 x
theorem rls_wr : ∀ (l : List Rl), (∀ r ∈ l, GdR r) → ∀ R K, Lk R K → Lk (rlsT l ++ R) (fun ts => ∃ l', rlsB false l l' = true ∧ Pr (RIt (l'.map .ac)) K ts)
  | [], h, R, K, hK => hK.mono fun ts hk => ⟨[], by rw [rlsB], [], ts, rfl, rfl, hk⟩
  | b :: r, h, R, K, hK => by
    have e : rlsT (b :: r) ++ R = [97, 99, 116, 111, 114] ++ 32 :: (headT b.name b.ps ++ (32 :: 123 :: 10 :: (bdsT 1 [111, 110, 32] b.on ++ (125 :: 10 :: (rlsT r ++ R))))) := by simp [rlsT, rlT]
    rw [e]
    obtain ⟨h1, h2⟩ := h b (by simp)
    refine (lk_key (by decide) (sep_of (by decide)) (lk_blk (by decide) (hd_wr h1 (lk_blk (by decide) (lk_end (by decide) (lk_blk (by decide) (ons_wr b.on h2 _ _ (lk_end (by decide) (lk_blk (by decide) (rls_wr r (fun y hy => h y (by simp [hy])) R K hK))))))) (sep_of (by decide))))).mono ?_
    rintro ts ⟨t, r1, rfl, ht, u, L, r2, rfl, hu, hL, o, r3, rfl, ho, on', hon, a, r4, rfl, ha, c, r5, rfl, hc, l', hl', m, r6, rfl, hm, hk⟩
    refine ⟨⟨b.name, b.ps, on', (t.ln : Int)⟩ :: l', by rw [rlsB, hl']; unfold rlB; rw [hon]; simp, t :: ((u :: (L ++ o :: (a ++ [c]))) ++ m), r6, by simp, ?_, hk⟩
    exact ⟨t, _, m, rfl, ht, rfl, ⟨u, L, _, rfl, hu, hL, ⟨o, a, c, rfl, ho, hc, ha⟩⟩, hm⟩
theorem fns_wr (q : List It → List Tw → Prop) : ∀ (l : List Bd), (∀ b ∈ l, headR b.name b.ps = true ∧ ∀ x ∈ b.st, WrS 1 x) → ∀ R (P : List Rl → Prop) K, Lk R (fun ts => ∃ m, P m ∧ Pr (RIt (m.map .ac)) K ts) → Lk (bdsT 0 [102, 117, 110, 99, 32] l ++ R) (fun ts => ∃ l' m, bdsB false l l' = true ∧ P m ∧ Pr (RIt (l'.map .fn ++ m.map .ac)) K ts)
  | [], h, R, P, K, hK => hK.mono fun ts ⟨m, hm, hk⟩ => ⟨[], m, by rw [bdsB], hm, hk⟩
  | b :: r, h, R, P, K, hK => by
    rw [bdsT, List.append_assoc]
    refine (bd_wr (q := [102, 117, 110, 99]) (by decide) (h b (by simp)).1 (h b (by simp)).2 (fns_wr q r (fun y hy => h y (by simp [hy])) R P K hK)).mono ?_
    rintro ts ⟨b', hb, k, a, r1, rfl, hk, hl, ha, l', m, hl', hm, c, r2, rfl, hc, hK⟩
    exact ⟨b' :: l', m, by rw [bdsB, hb, hl']; rfl, hm, k :: (a ++ c), r2, by simp, ⟨k, a, c, rfl, hk, hl, ha, hc⟩, hK⟩
theorem itG_fn : ∀ (l : List Bd) (g : Pg) (m : List It), itG g (l.map .fn ++ m) = itG ⟨g.fns ++ l, g.roles⟩ m
  | [], g, m => by simp
  | b :: r, g, m => by
    rw [List.map_cons, List.cons_append, itG, itG_fn r]
    simp
theorem itG_ac : ∀ (l : List Rl) (g : Pg), itG g (l.map .ac) = ⟨g.fns, g.roles ++ l⟩
  | [], g => by simp [itG]
  | b :: r, g => by
    rw [List.map_cons, itG, itG_ac r]
    simp
/-! Sizes and depths. -/
theorem exR_size : ∀ (n : Nat), (∀ (x : Ex) (d c c' : Nat), SizeOf.sizeOf x < n → exR d x c = some c' → szE x + c' = c ∧ dpE x + d ≤ 41) ∧ (∀ (l : List Ex) (d c c' : Nat), SizeOf.sizeOf l < n → exsR d l c = some c' → szEs l + c' = c ∧ dpEs l ≤ 41 - d) := by
  intro n
  induction n with
  | zero => exact ⟨fun x d c c' h => absurd h (by omega), fun x d c c' h => absurd h (by omega)⟩
  | succ n ih =>
    refine ⟨fun x d c c' hs h => ?_, fun l d c c' hs h => ?_⟩
    · obtain ⟨k, s, m, l⟩ := x
      rw [exR] at h
      split at h
      · cases h
      · split at h
        · cases h
        · have := ih.2 l (d + 1) (c - 1) c' (by simp at hs; omega) h
          rw [szE, dpE]
          omega
    · cases l with
      | nil => rw [exsR] at h; cases h; rw [szEs, dpEs]; omega
      | cons x r =>
        rw [exsR] at h
        split at h
        · cases h
        · rename_i c1 h1
          have a := ih.1 x d c c1 (by simp at hs; omega) h1
          have b := ih.2 r d c1 c' (by simp at hs; omega) h
          rw [szEs, dpEs]
          omega
theorem smR_size : ∀ (n : Nat), (∀ (x : Sm) (d c c' : Nat), SizeOf.sizeOf x < n → smR d x c = some c' → szS x + c' = c ∧ d ≤ 40 ∧ dpS x ≤ 3 * (41 - d) + 1) ∧ (∀ (l : List Sm) (d c c' : Nat), SizeOf.sizeOf l < n → smsR d l c = some c' → szSs l + c' = c ∧ dpSs l ≤ 3 * (41 - d) + 1) := by
  intro n
  induction n with
  | zero => exact ⟨fun x d c c' h => absurd h (by omega), fun x d c c' h => absurd h (by omega)⟩
  | succ n ih =>
    refine ⟨fun x d c c' hs h => ?_, fun l d c c' hs h => ?_⟩
    · obtain ⟨k, s, x, b, e, ln⟩ := x
      rw [smR] at h
      split at h
      · cases h
      · split at h
        · cases h
        · split at h
          · cases h
          · rename_i c1 h1
            split at h
            · cases h
            · rename_i c2 h2
              have a := (exR_size _).2 x (d + 1) (c - 1) c1 (Nat.lt_succ_self _) h1
              have b1 := ih.2 b (d + 1) c1 c2 (by simp at hs; omega) h2
              have b2 := ih.2 e (d + 1) c2 c' (by simp at hs; omega) h
              rw [szS, dpS]
              omega
    · cases l with
      | nil => rw [smsR] at h; cases h; rw [szSs, dpSs]; omega
      | cons x r =>
        rw [smsR] at h
        split at h
        · cases h
        · rename_i c1 h1
          have a := ih.1 x d c c1 (by simp at hs; omega) h1
          have b := ih.2 r d c1 c' (by simp at hs; omega) h
          rw [szSs, dpSs]
          omega
/-! The same but for lines. -/
mutual
theorem smB_size : ∀ (x y : Sm), smB false x y = true → szS x = szS y ∧ dpS x = dpS y ∧ ∀ d c, smR d x c = smR d y c
  | .mk k s x b e ln, .mk k' s' x' b' e' ln', h => by
    rw [smB] at h
    simp only [Bool.and_eq_true, beq_iff_eq, Bool.not_false, Bool.true_or, and_true] at h
    obtain ⟨⟨⟨⟨rfl, rfl⟩, h1⟩, h2⟩, h3⟩ := h
    obtain rfl := exsB_eq _ _ h1
    obtain ⟨a1, a2, a3, a4⟩ := smsB_size b b' h2
    obtain ⟨b1, b2, b3, b4⟩ := smsB_size e e' h3
    refine ⟨by rw [szS, szS, a1, b1], by rw [dpS, dpS, a2, b2], fun d c => ?_⟩
    rw [smR, smR, a4, b4]
    simp only [a3, b3]
theorem smsB_size : ∀ (x y : List Sm), smsB false x y = true → szSs x = szSs y ∧ dpSs x = dpSs y ∧ (∀ d c, smsR d x c = smsR d y c) ∧ x.length = y.length
  | [], [], _ => ⟨rfl, rfl, fun _ _ => rfl, rfl⟩
  | x :: r, y :: q, h => by
    rw [smsB, Bool.and_eq_true] at h
    obtain ⟨a1, a2, a3⟩ := smB_size x y h.1
    obtain ⟨b1, b2, b3, b4⟩ := smsB_size r q h.2
    refine ⟨by rw [szSs, szSs, a1, b1], by rw [dpSs, dpSs, a2, b2], fun d c => ?_, by rw [List.length_cons, List.length_cons, b4]⟩
    rw [smsR, smsR, a3]
    simp only [b3]
  | [], _ :: _, h => by simp [smsB] at h
  | _ :: _, [], h => by simp [smsB] at h
end
theorem bdB_same {a b : Bd} (h : bdB false a b = true) : a.name = b.name ∧ a.ps = b.ps ∧ smsB false a.st b.st = true := by
  unfold bdB at h
  simp only [Bool.and_eq_true, beq_iff_eq, Bool.not_false, Bool.true_or, and_true] at h
  exact ⟨h.1.1, h.1.2, h.2⟩
theorem bdB_R {a b : Bd} (h : bdB false a b = true) (c : Nat) : bodyR a c = bodyR b c := by
  obtain ⟨h1, h2, h3⟩ := bdB_same h
  unfold bodyR
  rw [h1, h2, (smsB_size _ _ h3).2.2.1]
theorem bdsB_R : ∀ (l m : List Bd), bdsB false l m = true → ∀ c, bodiesR l c = bodiesR m c
  | [], [], _, c => rfl
  | x :: r, y :: q, h, c => by
    rw [bdsB, Bool.and_eq_true] at h
    rw [bodiesR, bodiesR, bdB_R h.1]
    simp only [bdsB_R r q h.2]
  | [], _ :: _, h, c => by simp [bdsB] at h
  | _ :: _, [], h, c => by simp [bdsB] at h
theorem rlsB_R : ∀ (l m : List Rl), rlsB false l m = true → ∀ c, rolesR l c = rolesR m c
  | [], [], _, c => rfl
  | x :: r, y :: q, h, c => by
    rw [rlsB, Bool.and_eq_true] at h
    obtain ⟨h1, h2⟩ := h
    unfold rlB at h1
    simp only [Bool.and_eq_true, beq_iff_eq, Bool.not_false, Bool.true_or, and_true] at h1
    have e : roleR x c = roleR y c := by
      unfold roleR
      rw [h1.1.1, h1.1.2, bdsB_len h1.2, bdsB_R _ _ h1.2]
    rw [rolesR, rolesR, e]
    simp only [rlsB_R r q h2]
  | [], _ :: _, h, c => by simp [rlsB] at h
  | _ :: _, [], h, c => by simp [rlsB] at h
theorem pgB_R {g m : Pg} (h : pgB false g m = true) : rightP g = rightP m := by
  unfold pgB at h
  rw [Bool.and_eq_true] at h
  unfold rightP
  rw [bdsB_len h.1, rlsB_len h.2, bdsB_R _ _ h.1]
  simp only [rlsB_R _ _ h.2]
/-! Right programs, part by part. -/
theorem okBody {b : Bd} {c c' : Nat} (h : bodyR b c = some c') (hc : c ≤ 2000) : headR b.name b.ps = true ∧ smsR 1 b.st c = some c' ∧ szSs b.st ≤ 2000 ∧ dpSs b.st ≤ 250 := by
  unfold bodyR at h
  split at h
  · rename_i hh
    have := (smR_size _).2 b.st 1 c c' (Nat.lt_succ_self _) h
    exact ⟨hh, h, by omega, by omega⟩
  · cases h
theorem okBodies : ∀ {l : List Bd} {c c' : Nat}, bodiesR l c = some c' → c ≤ 2000 → c' ≤ 2000 ∧ ∀ b ∈ l, headR b.name b.ps = true ∧ (∃ c c', smsR 1 b.st c = some c') ∧ szSs b.st ≤ 2000 ∧ dpSs b.st ≤ 250
  | [], c, c', h, hc => by
    rw [bodiesR] at h
    cases h
    exact ⟨hc, by simp⟩
  | x :: r, c, c', h, hc => by
    rw [bodiesR] at h
    split at h
    · cases h
    · rename_i c1 h1
      obtain ⟨a1, a2, a3, a4⟩ := okBody h1 hc
      have := (smR_size _).2 x.st 1 c c1 (Nat.lt_succ_self _) a2
      obtain ⟨b1, b2⟩ := okBodies h (by omega)
      refine ⟨b1, fun b hb => ?_⟩
      rcases List.mem_cons.1 hb with rfl | hb
      · exact ⟨a1, ⟨_, _, a2⟩, a3, a4⟩
      · exact b2 b hb
theorem okRoles : ∀ {l : List Rl} {c c' : Nat}, rolesR l c = some c' → c ≤ 2000 → ∀ r ∈ l, headR r.name r.ps = true ∧ r.on.length ≤ 60 ∧ ∀ b ∈ r.on, headR b.name b.ps = true ∧ (∃ c c', smsR 1 b.st c = some c') ∧ szSs b.st ≤ 2000 ∧ dpSs b.st ≤ 250
  | [], c, c', h, hc => by simp
  | x :: r, c, c', h, hc => by
    rw [rolesR] at h
    split at h
    · cases h
    · rename_i c1 h1
      unfold roleR at h1
      split at h1
      · rename_i hh
        simp only [Bool.and_eq_true, decide_eq_true_eq] at hh
        obtain ⟨a1, a2⟩ := okBodies h1 hc
        intro b hb
        rcases List.mem_cons.1 hb with rfl | hb
        · exact ⟨hh.1, hh.2, a2⟩
        · exact okRoles h a1 b hb
      · cases h1
theorem bdsB_at {l m : List Bd} (P Q : Bd → Prop) (hPQ : ∀ a b, bdB false a b = true → P a → Q b) : ∀ {l m : List Bd}, bdsB false l m = true → (∀ b ∈ l, P b) → ∀ b ∈ m, Q b
  | [], [], _, _, b, hb => by cases hb
  | x :: r, y :: q, h, hP, b, hb => by
    rw [bdsB, Bool.and_eq_true] at h
    rcases List.mem_cons.1 hb with rfl | hb
    · exact hPQ x _ h.1 (hP x (by simp))
    · exact bdsB_at (l := []) (m := []) P Q hPQ h.2 (fun z hz => hP z (by simp [hz])) b hb
  | [], _ :: _, h, _, _, _ => by simp [bdsB] at h
  | _ :: _, [], h, _, _, _ => by simp [bdsB] at h
theorem rlsB_at (P Q : Rl → Prop) (hPQ : ∀ a b, rlB false a b = true → P a → Q b) : ∀ {l m : List Rl}, rlsB false l m = true → (∀ b ∈ l, P b) → ∀ b ∈ m, Q b
  | [], [], _, _, b, hb => by cases hb
  | x :: r, y :: q, h, hP, b, hb => by
    rw [rlsB, Bool.and_eq_true] at h
    rcases List.mem_cons.1 hb with rfl | hb
    · exact hPQ x _ h.1 (hP x (by simp))
    · exact rlsB_at P Q hPQ h.2 (fun z hz => hP z (by simp [hz])) b hb
  | [], _ :: _, h, _, _, _ => by simp [rlsB] at h
  | _ :: _, [], h, _, _, _ => by simp [rlsB] at h
/-- Its texts are of bytes. -/
def B8P (g : Pg) : Prop := (∀ b ∈ g.fns, B8Ss b.st) ∧ ∀ r ∈ g.roles, ∀ b ∈ r.on, B8Ss b.st
theorem okBn_of {N : Nat} (hN : 2001 ≤ N) (a b : Bd) (h : bdB false a b = true) (ha : headR a.name a.ps = true ∧ szSs a.st ≤ 2000 ∧ dpSs a.st ≤ 250) : OkBn N b := by
  obtain ⟨h1, h2, h3⟩ := bdB_same h
  obtain ⟨s1, s2, -, -⟩ := smsB_size _ _ h3
  obtain ⟨-, p1, -⟩ := headR_parts ha.1
  rw [h2] at p1
  exact ⟨by omega, by omega, by omega⟩
/-- What Show writes is parsed to the same program, but for lines. -/
theorem show_back {g : Pg} {T : List Nat} (h : showF g = (T, 0)) (hn : NbP g) (hb : B8P g) {N : Nat} (hN : 2001 ≤ N) : ∃ g', pgB false g g' = true ∧ parseF T N = some (g', 0, 0) := by
  obtain ⟨hr, hT, hlen⟩ := showF_text h
  have hr0 := hr
  unfold rightP at hr
  split at hr
  · cases hr
  · rename_i h60
    split at hr
    · cases hr
    · rename_i c1 hc1
      obtain ⟨c2, hc2⟩ := Option.isSome_iff_exists.1 hr
      obtain ⟨hc1', okf⟩ := okBodies hc1 (Nat.le_refl _)
      have okr := okRoles hc2 hc1'
      have wf : ∀ b ∈ g.fns, headR b.name b.ps = true ∧ ∀ x ∈ b.st, WrS 1 x := fun b hbm => ⟨(okf b hbm).1, fun x hx => by
        obtain ⟨c, c', hst⟩ := (okf b hbm).2.1
        exact smT_wr _ x 1 1 (Nat.lt_succ_self _) (okSs hst x hx) (NbSs.at (hn.1 b hbm) x hx) (B8Ss.at (hb.1 b hbm) x hx)⟩
      have wr : ∀ r ∈ g.roles, GdR r := fun r hrm => ⟨(okr r hrm).1, fun b hbm => ⟨((okr r hrm).2.2 b hbm).1, fun x hx => by
        obtain ⟨c, c', hst⟩ := ((okr r hrm).2.2 b hbm).2.1
        exact smT_wr _ x 1 2 (Nat.lt_succ_self _) (okSs hst x hx) (NbSs.at (hn.2 r hrm b hbm) x hx) (B8Ss.at (hb.2 r hrm b hbm) x hx)⟩⟩
      have h0 : Lk [] (fun ts => ∃ e : Tw, ts = [e] ∧ e.k = 6) := fun ln => ⟨_, ⟨⟨6, [], 0, ln + (([] : List Nat).take (pas false [])).count 10⟩, rfl, rfl⟩, ⟨6, 0, [], 0⟩, rfl, rfl, trivial⟩
      have h1 := rls_wr g.roles wr [] _ h0
      rw [List.append_nil] at h1
      have h2 := fns_wr (fun _ _ => True) g.fns wf _ (fun m => rlsB false g.roles m = true) _ h1
      obtain ⟨rs, ⟨f', r', hf, hrr, a, r1, rfl, ha, e, rfl, he⟩, hx⟩ := h2 1
      have hT2 : bdsT 0 [102, 117, 110, 99, 32] g.fns ++ rlsT g.roles = T := hT.symm
      rw [hT2] at hx
      have htk : Toks T 0 (a ++ [e]) := Lx.toks (Nat.zero_le _) (by simpa using hx)
      have okI : ∀ x ∈ f'.map It.fn ++ r'.map It.ac, OkI N x := by
        intro x hx
        rcases List.mem_append.1 hx with hx | hx
        · obtain ⟨b, hbm, rfl⟩ := List.mem_map.1 hx
          exact bdsB_at (l := []) (m := []) (fun a => headR a.name a.ps = true ∧ szSs a.st ≤ 2000 ∧ dpSs a.st ≤ 250) (OkBn N) (okBn_of hN) hf (fun b hb => ⟨(okf b hb).1, (okf b hb).2.2⟩) b hbm
        · obtain ⟨b, hbm, rfl⟩ := List.mem_map.1 hx
          refine rlsB_at (fun r => headR r.name r.ps = true ∧ r.on.length ≤ 60 ∧ ∀ b ∈ r.on, headR b.name b.ps = true ∧ szSs b.st ≤ 2000 ∧ dpSs b.st ≤ 250) (OkRn N) ?_ hrr (fun r hr => ⟨(okr r hr).1, (okr r hr).2.1, fun b hb => ⟨((okr r hr).2.2 b hb).1, ((okr r hr).2.2 b hb).2.2⟩⟩) b hbm
          rintro x y hxy ⟨p1, p2, p3⟩
          unfold rlB at hxy
          simp only [Bool.and_eq_true, beq_iff_eq, Bool.not_false, Bool.true_or, and_true] at hxy
          have q1 := bdsB_len hxy.2
          have q2 := (headR_parts p1).2.1
          rw [hxy.1.2] at q2
          exact ⟨by omega, by omega, bdsB_at (l := []) (m := []) (fun a => headR a.name a.ps = true ∧ szSs a.st ≤ 2000 ∧ dpSs a.st ≤ 250) (OkBn N) (okBn_of hN) hxy.2 p3⟩
      have hl : (f'.map It.fn ++ r'.map It.ac).length < N := by
        have q1 := bdsB_len hf
        have q2 := rlsB_len hrr
        rw [List.length_append, List.length_map, List.length_map]
        omega
      have hp := parse_reads hlen (f'.map It.fn ++ r'.map It.ac) a e htk he ha okI hl
      rw [itG_fn, itG_ac] at hp
      have hg : pgB false g ⟨f', r'⟩ = true := by unfold pgB; rw [hf, hrr]; rfl
      have hr2 : rightP ⟨f', r'⟩ = true := by rw [← pgB_R hg]; exact hr0
      refine ⟨⟨f', r'⟩, hg, ?_⟩
      rw [hp]
      simp only [List.nil_append]
      rw [if_pos hr2]
end Go.Proofs.YteacmanbiamhoaaGreatDoor
