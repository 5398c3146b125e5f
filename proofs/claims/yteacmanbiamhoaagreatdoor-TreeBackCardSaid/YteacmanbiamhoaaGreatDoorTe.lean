/- Package tree: the short methods of the parser, further walks. -/
import Derived.Test.YteacmanbiamhoaaGreatDoorTd
import Derived.Defers
import Derived.Deep.DeepCutAuto
namespace Go.Proofs.YteacmanbiamhoaaGreatDoor
open Go.RowKit
set_option linter.unusedVariables false

section
variable {w0 w : World} {T : List Nat} {R : Ru} {q : Nat} {p : Pst}
theorem one_empty (s : List Nat) : (strOf s).toList.isEmpty = decide (s = []) := by
  rw [ByteArray.toList_eq]
  cases s <;> simp [strOf]
theorem Cx.setG {p' : Pst} {g : Nat} (h : Cx w0 T R q w p) (hg : p'.k = p.k ∧ p'.s = p.s ∧ p'.n = p.n ∧ p'.ln = p.ln ∧ p'.a = p.a ∧ p'.e = p.e ∧ p'.er = p.er ∧ p'.fl = p.fl) (hG : p'.g = g) : Cx w0 T R q (w.setCell ⟨q, 9, none⟩ (.int .i64 (g : Int))) p' := by
  obtain ⟨e1, e2, e3, e4, e5, e6, e7, e8⟩ := hg
  have hh := heap_set h.hp 9 (.int .i64 (g : Int))
  refine h.on ((Kp.refl q w).set rfl _) ?_ (by rw [e2]; exact h.ok)
  rw [hh]
  unfold pcells
  rw [e1, e2, e3, e4, e5, e6, e7, e8, hG]
  simp
set_option maxHeartbeats 800000 in
theorem ok_any (h : Cx w0 T R q w p) : Calls Tryz.prog 111 #[at0 q] w fun e w' => e = .returned (.bool (decide (p.er = 0))) ∧ w' = w := by
  obtain ⟨⟨-, -, -, -, -, -, -, c7, -⟩, -⟩ := box11 h.hp
  have e0 : ((p.er : Int) == 0) = decide (p.er = 0) := by
    rw [Bool.eq_iff_iff, beq_iff_eq, decide_eq_true_iff]
    omega
  unfold at0
  generalize decide (p.er = 0) = b at *
  go_enter Tryz.func111, Tryz.ntmps111
  go_wp2_with fail
  go_ret
  exact ⟨by rw [← e0]; rfl, rfl⟩
set_option maxRecDepth 100000 in
set_option maxHeartbeats 1600000 in
theorem fail_any (h : Cx w0 T R q w p) (er : Nat) : Calls Tryz.prog 115 #[at0 q, .int .i64 (er : Int)] w fun e w' => e = .returned (.tuple #[]) ∧ Cx w0 T R q w' (p.fail er) ∧ Kp q w w' := by
  have HO := Lib.hid (ok_any h)
  obtain ⟨⟨-, c1, c2, c3, c4, c5, c6, c7, c8, -⟩, -, f1, f2, f3, f4, f5, f6, f7, f8, -⟩ := box11 h.hp
  have HC := Lib.hid h
  have hlt := h.lt
  by_cases h0 : p.er = 0
  · have HP : Hid (p.fail er = ⟨0, [], 0, 0, 0, 0, er, p.ln, p.g⟩) := Lib.hid (by unfold Pst.fail; rw [if_pos h0])
    rw [decide_eq_true h0] at HO
    rw [HP.out]
    clear h0 h
    unfold at0 at *
    go_enter Tryz.func115, Tryz.ntmps115
    go_wp2_with fail
    refine HO.out.mono ?_
    rintro e w1 ⟨rfl, rfl⟩
    go_wp2_with fail
    go_end0
    have HK := (Kp.refl q w1).setWF (k := .int .u8 0) (s := .string ⟨#[]⟩) (n := .int .i64 0) (ln := .int .i64 0) (a' := .int .i64 0) (e := .int .i64 0) (er := .int .i64 (er : Int)) (fl := .int .i64 (p.ln : Int))
    have HH := setWF (p' := ⟨0, [], 0, 0, 0, 0, er, p.ln, p.g⟩) HC.out.hp rfl (k := .int .u8 0) (s := .string ⟨#[]⟩) (n := .int .i64 0) (ln := .int .i64 0) (a := .int .i64 0) (e := .int .i64 0) (er := .int .i64 (er : Int)) (fl := .int .i64 (p.ln : Int)) rfl rfl rfl rfl rfl rfl rfl rfl
    exact ⟨rfl, HC.out.on HK HH ⟨by simp, by simp⟩, HK⟩
  · have HP : Hid (p.fail er = p) := Lib.hid (by unfold Pst.fail; rw [if_neg h0])
    rw [decide_eq_false h0] at HO
    rw [HP.out]
    clear h0 h
    unfold at0 at *
    go_enter Tryz.func115, Tryz.ntmps115
    go_wp2_with fail
    refine HO.out.mono ?_
    rintro e w1 ⟨rfl, rfl⟩
    go_wp2_with fail
    go_end0
    exact ⟨rfl, HC.out, Kp.refl _ _⟩
set_option maxRecDepth 100000 in
set_option maxHeartbeats 1600000 in
theorem fin_any (h : Cx w0 T R q w p) (hg : 1 ≤ p.g) (hg2 : p.g ≤ 1000000000000000) : Calls Tryz.prog 170 #[at0 q] w fun e w' => e = .returned (.tuple #[]) ∧ Cx w0 T R q w' p.fin ∧ Kp q w w' := by
  obtain ⟨⟨-, -, -, -, -, -, -, -, -, c9, -⟩, -, -, -, -, -, -, -, -, -, f9, -⟩ := box11 h.hp
  have HC := Lib.hid h
  have hlt := h.lt
  obtain ⟨g, hg'⟩ : ∃ g, p.g = g + 1 := ⟨p.g - 1, by omega⟩
  have e0 : ((g + 1 : Nat) : Int) - 1 = (g : Int) := by omega
  have HF : Hid (p.fin.g = g) := Lib.hid (by unfold Pst.fin; rw [hg']; rfl)
  rw [hg'] at c9
  have HG := Lib.hid hg'
  have hb : g ≤ 1000000000000000 := by omega
  clear hg hg2 hg' h
  unfold at0
  go_enter Tryz.func170, Tryz.ntmps170
  go_wp2_with fail
  go_end0
  exact ⟨rfl, HC.out.setG ⟨rfl, rfl, rfl, rfl, rfl, rfl, rfl, rfl⟩ HF.out, (Kp.refl q w).set rfl _⟩
set_option maxRecDepth 100000 in
set_option maxHeartbeats 1600000 in
theorem finD_any (u : FrameMode) (h : Cx w0 T R q w p) (hg : 1 ≤ p.g) (hg2 : p.g ≤ 1000000000000000) : CallsD Tryz.prog 170 #[at0 q] u w fun e u' w' => u' = u ∧ (e = .returned (.tuple #[]) ∧ Cx w0 T R q w' p.fin ∧ Kp q w w') := by
  obtain ⟨⟨-, -, -, -, -, -, -, -, -, c9, -⟩, -, -, -, -, -, -, -, -, -, f9, -⟩ := box11 h.hp
  have HC := Lib.hid h
  have hlt := h.lt
  obtain ⟨g, hg'⟩ : ∃ g, p.g = g + 1 := ⟨p.g - 1, by omega⟩
  have e0 : ((g + 1 : Nat) : Int) - 1 = (g : Int) := by omega
  have HF : Hid (p.fin.g = g) := Lib.hid (by unfold Pst.fin; rw [hg']; rfl)
  rw [hg'] at c9
  have HG := Lib.hid hg'
  have hb : g ≤ 1000000000000000 := by omega
  clear hg hg2 hg' h
  unfold at0
  go_enter_d Tryz.func170, Tryz.ntmps170
  go_wp2
  go_end0
  exact ⟨rfl, HC.out.setG ⟨rfl, rfl, rfl, rfl, rfl, rfl, rfl, rfl⟩ HF.out, (Kp.refl q w).set rfl _⟩
set_option maxRecDepth 100000 in
set_option maxHeartbeats 1600000 in
theorem begin_any (h : Cx w0 T R q w p) (hg2 : p.g ≤ 1000000000000000) : Calls Tryz.prog 169 #[at0 q] w fun e w' => e = .returned (.tuple #[]) ∧ Cx w0 T R q w' p.begin ∧ Kp q w w' := by
  obtain ⟨⟨-, -, -, -, -, -, -, -, -, c9, -⟩, -, -, -, -, -, -, -, -, -, f9, -⟩ := box11 h.hp
  have HFA := Lib.hid (fail_any h 102)
  have HC := Lib.hid h
  have hlt := h.lt
  have hgf : (p.fail 102).g = p.g := by unfold Pst.fail; split <;> rfl
  by_cases hm : 250 ≤ p.g
  · have HB : Hid (p.begin = { p.fail 102 with g := (p.fail 102).g + 1 }) := Lib.hid (by unfold Pst.begin; rw [if_pos hm])
    have d0 : decide ((250 : Int) ≤ (p.g : Int)) = true := decide_eq_true (by omega)
    have HGF := Lib.hid hgf
    rw [HB.out]
    clear h hm hgf
    unfold at0 at *
    go_enter Tryz.func169, Tryz.ntmps169
    go_wp2_with fail
    refine HFA.out.mono ?_
    rintro e w1 ⟨rfl, h1, hk⟩
    obtain ⟨⟨-, -, -, -, -, -, -, -, -, d9, -⟩, -, -, -, -, -, -, -, -, -, g9, -⟩ := box11 h1.hp
    have H1 := Lib.hid h1
    have HK := Lib.hid hk
    have hlt1 := h1.lt
    rw [HGF.out] at d9
    clear h1 hk c9 f9 d0
    go_wp2_with fail
    go_end0
    exact ⟨rfl, H1.out.setG ⟨rfl, rfl, rfl, rfl, rfl, rfl, rfl, rfl⟩ (by dsimp only; rw [HGF.out]), HK.out.set rfl _⟩
  · have HB : Hid (p.begin = { p with g := p.g + 1 }) := Lib.hid (by unfold Pst.begin; rw [if_neg hm])
    have d0 : decide ((250 : Int) ≤ (p.g : Int)) = false := decide_eq_false (by omega)
    rw [HB.out]
    clear h hm hgf HFA
    unfold at0 at *
    go_enter Tryz.func169, Tryz.ntmps169
    go_wp2_with fail
    go_end0
    exact ⟨rfl, HC.out.setG ⟨rfl, rfl, rfl, rfl, rfl, rfl, rfl, rfl⟩ rfl, (Kp.refl q w).set rfl _⟩
set_option maxRecDepth 100000 in
set_option maxHeartbeats 1600000 in
theorem oneOf_any (ht : TxtOk w0 T) (h : Cx w0 T R q w p) (kind : Nat) (says : List (List Nat)) (A : Option Addr) (c : Nat) (hx : Tx w A says) (h8 : ∀ t ∈ says, ∀ x ∈ t, x < 256) (hl : says.length ≤ 1000) (hA : ∀ a, A = some a → a.block < w.heap.size) :
    Calls Tryz.prog 173 #[at0 q, .int .u8 (kind : Int), .slice A says.length c] w fun e w' => e = .returned (.string (strOf (p.one T kind says).1)) ∧ Cx w0 T R q w' (p.one T kind says).2 ∧ Kp q w w' := by
  obtain ⟨⟨-, c1, c2, c3, c4, c5, c6, -⟩, -⟩ := box11 h.hp
  have HC := Lib.hid h
  have hlt := h.lt
  have hqa : ¬ q = w.heap.size := by omega
  have hx1 : ∀ o, Tx (w.alloc o) A says := fun o i s hs => by
    obtain ⟨b, k, rfl, hc⟩ := hx i s hs
    exact ⟨b, k, rfl, (((Below.refl w.heap.size w).alloc (Nat.le_refl _) o).cell (p := ⟨b, k + i, none⟩) (hA ⟨b, k, none⟩ rfl)).trans hc⟩
  have HCO := Lib.hid (fun o => contains_any says p.s A c (w.alloc o) (hx1 o) h8 h.ok.1 hl)
  have HST := Lib.hid (fun o => step_any ht (h.alloc o))
  have HQ := Lib.hid (fun o => heap_new w o)
  by_cases hk : p.k = kind
  · have d0 : ((p.k : Int) != (kind : Int)) = false := by rw [hk]; simp
    by_cases hs : p.s ∈ says
    · have HP : Hid (p.one T kind says = (p.s, p.step T)) := Lib.hid (by unfold Pst.one; rw [if_pos ⟨hk, hs⟩])
      rw [decide_eq_true hs] at HCO
      rw [HP.out]
      clear h hk hs hx hx1 h8 ht hA
      unfold at0 at *
      go_enter Tryz.func173, Tryz.ntmps173
      go_wp2_with (first
        | (go_at_call 216
           refine (HCO.out _).mono ?_
           rintro e w' ⟨rfl, rfl⟩)
        | (fail))
      refine (HST.out _).mono ?_
      rintro e w1 ⟨rfl, h1, hk⟩
      have H1 := Lib.hid h1
      have HK := Lib.hid (((Kp.refl q w).alloc _).trans hk)
      obtain ⟨⟨-, y1, -⟩, -⟩ := bx6 (hk.heap (heap_new w _) (fun e => hqa e.symm))
      clear h1 hk
      go_wp2_with fail
      go_ret
      exact ⟨rfl, H1.out, HK.out⟩
    · have HP : Hid (p.one T kind says = ([], p)) := Lib.hid (by unfold Pst.one; rw [if_neg (fun h => hs h.2)])
      rw [decide_eq_false hs] at HCO
      rw [HP.out]
      clear h hk hs hx hx1 h8 ht hA HST
      unfold at0 at *
      go_enter Tryz.func173, Tryz.ntmps173
      go_wp2_with (first
        | (go_at_call 216
           refine (HCO.out _).mono ?_
           rintro e w' ⟨rfl, rfl⟩)
        | (fail))
      go_ret
      exact ⟨rfl, HC.out.alloc _, (Kp.refl q w).alloc _⟩
  · have d0 : ((p.k : Int) != (kind : Int)) = true := bne_iff_ne.2 (by omega)
    have HP : Hid (p.one T kind says = ([], p)) := Lib.hid (by unfold Pst.one; rw [if_neg (fun h => hk h.1)])
    rw [HP.out]
    clear h hk hx hx1 h8 ht hA HST HCO
    unfold at0 at *
    go_enter Tryz.func173, Tryz.ntmps173
    go_wp2_with fail
    go_ret
    exact ⟨rfl, HC.out.alloc _, (Kp.refl q w).alloc _⟩
set_option maxHeartbeats 800000 in
theorem sign_any' (ht : TxtOk w0 T) (h : Cx w0 T R q w p) (says : List (List Nat)) (A : Option Addr) (c n : Nat) (hn : n = says.length) (hx : Tx w A says) (h8 : ∀ t ∈ says, ∀ x ∈ t, x < 256) (hl : says.length ≤ 1000) (hA : ∀ a, A = some a → a.block < w.heap.size) :
    Calls Tryz.prog 168 #[at0 q, .slice A n c] w fun e w' => e = .returned (.string (strOf (p.one T 5 says).1)) ∧ Cx w0 T R q w' (p.one T 5 says).2 ∧ Kp q w w' := by
  subst hn
  have HO := Lib.hid (oneOf_any ht h 5 says A c hx h8 hl hA)
  clear ht h hx h8 hA
  unfold at0 at *
  go_enter Tryz.func168, Tryz.ntmps168
  go_wp2_with fail
  refine HO.out.mono ?_
  rintro e w1 ⟨rfl, h1, hk⟩
  go_wp2_with fail
  go_ret
  exact ⟨rfl, h1, hk⟩
set_option maxHeartbeats 800000 in
theorem key_any' (ht : TxtOk w0 T) (h : Cx w0 T R q w p) (says : List (List Nat)) (A : Option Addr) (c n : Nat) (hn : n = says.length) (hx : Tx w A says) (h8 : ∀ t ∈ says, ∀ x ∈ t, x < 256) (hl : says.length ≤ 1000) (hA : ∀ a, A = some a → a.block < w.heap.size) :
    Calls Tryz.prog 112 #[at0 q, .slice A n c] w fun e w' => e = .returned (.string (strOf (p.one T 4 says).1)) ∧ Cx w0 T R q w' (p.one T 4 says).2 ∧ Kp q w w' := by
  subst hn
  have HO := Lib.hid (oneOf_any ht h 4 says A c hx h8 hl hA)
  clear ht h hx h8 hA
  unfold at0 at *
  go_enter Tryz.func112, Tryz.ntmps112
  go_wp2_with fail
  refine HO.out.mono ?_
  rintro e w1 ⟨rfl, h1, hk⟩
  go_wp2_with fail
  go_ret
  exact ⟨rfl, h1, hk⟩
/-- .. of signs, keys in an array that was just made. -/
theorem sign_made (ht : TxtOk w0 T) (h : Cx w0 T R q w p) (says : List (List Nat)) (arr : Array Value) (t : TypeId) (c n : Nat) (hn : n = says.length) (ha : arr.toList = says.map fun s => Value.string (strOf s)) (h8 : ∀ t ∈ says, ∀ x ∈ t, x < 256) (hl : says.length ≤ 1000) :
    Calls Tryz.prog 168 #[at0 q, .slice (some ⟨w.heap.size, 0, none⟩) n c] (w.alloc (.cells arr t)) fun e w' => e = .returned (.string (strOf (p.one T 5 says).1)) ∧ Cx w0 T R q w' (p.one T 5 says).2 ∧ Kp q w w' := by
  refine (sign_any' ht (h.alloc (.cells arr t)) says (some ⟨w.heap.size, 0, none⟩) c n hn (Tx.made w arr t says ha) h8 hl (fun a e => by cases e; simp)).mono ?_
  rintro e w' ⟨h1, h2, h3⟩
  exact ⟨h1, h2, ((Kp.refl q w).alloc _).trans h3⟩
theorem key_made (ht : TxtOk w0 T) (h : Cx w0 T R q w p) (says : List (List Nat)) (arr : Array Value) (t : TypeId) (c n : Nat) (hn : n = says.length) (ha : arr.toList = says.map fun s => Value.string (strOf s)) (h8 : ∀ t ∈ says, ∀ x ∈ t, x < 256) (hl : says.length ≤ 1000) :
    Calls Tryz.prog 112 #[at0 q, .slice (some ⟨w.heap.size, 0, none⟩) n c] (w.alloc (.cells arr t)) fun e w' => e = .returned (.string (strOf (p.one T 4 says).1)) ∧ Cx w0 T R q w' (p.one T 4 says).2 ∧ Kp q w w' := by
  refine (key_any' ht (h.alloc (.cells arr t)) says (some ⟨w.heap.size, 0, none⟩) c n hn (Tx.made w arr t says ha) h8 hl (fun a e => by cases e; simp)).mono ?_
  rintro e w' ⟨h1, h2, h3⟩
  exact ⟨h1, h2, ((Kp.refl q w).alloc _).trans h3⟩
set_option maxHeartbeats 800000 in
theorem must_any (ht : TxtOk w0 T) (h : Cx w0 T R q w p) (s : List Nat) (S : ByteArray) (hS : S = strOf s) (h8 : ∀ x ∈ s, x < 256) :
    Calls Tryz.prog 177 #[at0 q, .string S] w fun e w' => e = .returned (.bool (p.must T s).1) ∧ Cx w0 T R q w' (p.must T s).2 ∧ Kp q w w' := by
  subst hS
  have HO := Lib.hid (fun t => sign_made ht h [s] #[.string (strOf s)] t 1 1 rfl rfl (by simpa using h8) (by simp))
  have HF := Lib.hid (fun w' (h' : Cx w0 T R q w' (p.one T 5 [s]).2) => fail_any h' 101)
  have he : ((strOf (p.one T 5 [s]).1).toList.isEmpty) = decide ((p.one T 5 [s]).1 = []) := one_empty _
  by_cases h0 : (p.one T 5 [s]).1 = []
  · have HP : Hid (p.must T s = (false, (p.one T 5 [s]).2.fail 101)) := Lib.hid (by unfold Pst.must; rw [if_pos h0])
    rw [decide_eq_true h0] at he
    rw [HP.out]
    clear h0 h ht h8
    generalize p.one T 5 [s] = P at *
    obtain ⟨r, p1⟩ := P
    dsimp only at *
    unfold at0 at *
    go_enter Tryz.func177, Tryz.ntmps177
    go_wp2_with fail
    refine (HO.out _).mono ?_
    rintro e w1 ⟨rfl, h1, hk⟩
    have HK := Lib.hid hk
    have HFF := Lib.hid (HF.out w1 h1)
    clear hk h1
    go_wp2_with fail
    refine HFF.out.mono ?_
    rintro e w2 ⟨rfl, h2, hk2⟩
    go_wp2_with fail
    go_ret
    exact ⟨rfl, h2, HK.out.trans hk2⟩
  · have HP : Hid (p.must T s = (true, (p.one T 5 [s]).2)) := Lib.hid (by unfold Pst.must; rw [if_neg h0])
    rw [decide_eq_false h0] at he
    rw [HP.out]
    clear h0 h ht h8 HF
    generalize p.one T 5 [s] = P at *
    obtain ⟨r, p1⟩ := P
    dsimp only at *
    unfold at0 at *
    go_enter Tryz.func177, Tryz.ntmps177
    go_wp2_with fail
    refine (HO.out _).mono ?_
    rintro e w1 ⟨rfl, h1, hk⟩
    have HK := Lib.hid hk
    have H1 := Lib.hid h1
    clear hk h1
    go_wp2_with fail
    go_ret
    exact ⟨rfl, H1.out, HK.out⟩
set_option maxRecDepth 100000 in
set_option maxHeartbeats 1600000 in
theorem name_any' (ht : TxtOk w0 T) (h : Cx w0 T R q w p) :
    Calls Tryz.prog 174 #[at0 q] w fun e w' => e = .returned (.string (strOf (p.name T).1)) ∧ Cx w0 T R q w' (p.name T).2 ∧ Kp q w w' := by
  obtain ⟨⟨-, c1, c2, c3, c4, c5, c6, -⟩, -⟩ := box11 h.hp
  have HC := Lib.hid h
  have hlt := h.lt
  have hqa : ¬ q = w.heap.size := by omega
  have HST := Lib.hid (fun o => step_any ht (h.alloc o))
  have HF := Lib.hid (fun o => fail_any (h.alloc o) 101)
  by_cases hk : p.k = 3
  · have d0 : ((p.k : Int) != 3) = false := by rw [hk]; rfl
    have HP : Hid (p.name T = (p.s, p.step T)) := Lib.hid (by unfold Pst.name; rw [if_pos hk])
    rw [HP.out]
    clear h hk ht HF
    unfold at0 at *
    go_enter Tryz.func174, Tryz.ntmps174
    go_wp2_with fail
    refine (HST.out _).mono ?_
    rintro e w1 ⟨rfl, h1, hk⟩
    have H1 := Lib.hid h1
    have HK := Lib.hid (((Kp.refl q w).alloc _).trans hk)
    obtain ⟨⟨-, y1, -⟩, -⟩ := bx6 (hk.heap (heap_new w _) (fun e => hqa e.symm))
    clear h1 hk
    go_wp2_with fail
    go_ret
    exact ⟨rfl, H1.out, HK.out⟩
  · have d0 : ((p.k : Int) != 3) = true := bne_iff_ne.2 (by omega)
    have HP : Hid (p.name T = ([], p.fail 101)) := Lib.hid (by unfold Pst.name; rw [if_neg hk])
    rw [HP.out]
    clear h hk ht HST
    unfold at0 at *
    go_enter Tryz.func174, Tryz.ntmps174
    go_wp2_with fail
    refine (HF.out _).mono ?_
    rintro e w1 ⟨rfl, h1, hk⟩
    have H1 := Lib.hid h1
    have HK := Lib.hid (((Kp.refl q w).alloc _).trans hk)
    clear h1 hk
    go_wp2_with fail
    go_ret
    exact ⟨rfl, H1.out, HK.out⟩
theorem key_eq' (s k : List Nat) (h8 : ∀ x ∈ s, x < 256) (L : List UInt8) (hk : L = k.map UInt8.ofNat) (k8 : ∀ x ∈ k, x < 256) : ((strOf s).toList == L) = decide (s = k) := by
  rw [hk, ← show (strOf k).toList = k.map UInt8.ofNat by rw [ByteArray.toList_eq]; simp [strOf]]
  exact strOf_eq s k h8 k8
theorem one_sok (ht : TxtOk w0 T) (kind : Nat) (says : List (List Nat)) (h : Sok p.s) : Sok (p.one T kind says).1 ∧ Sok (p.one T kind says).2.s := by
  unfold Pst.one
  split
  · exact ⟨h, ht.ok p⟩
  · exact ⟨⟨by simp, by simp⟩, h⟩
set_option maxRecDepth 100000 in
set_option maxHeartbeats 1600000 in
theorem stmtKind_any (ht : TxtOk w0 T) (h : Cx w0 T R q w p) :
    Calls Tryz.prog 266 #[at0 q] w fun e w' => e = .returned (.int .u8 (kindF (p.one T 4 keysS).1 : Int)) ∧ Cx w0 T R q w' (p.one T 4 keysS).2 ∧ Kp q w w' := by
  have HO := Lib.hid (fun t => key_made ht h keysS #[.string ⟨#[108, 101, 116]⟩, .string ⟨#[115, 101, 116]⟩, .string ⟨#[105, 102]⟩, .string ⟨#[119, 104, 105, 108, 101]⟩, .string ⟨#[114, 101, 116, 117, 114, 110]⟩, .string ⟨#[115, 101, 110, 100]⟩, .string ⟨#[98, 101, 99, 111, 109, 101]⟩, .string ⟨#[115, 116, 111, 112]⟩] t 8 8 rfl rfl (by decide) (by decide))
  have hs := (one_sok ht 4 keysS h.ok).1.1
  have q0 := key_eq' _ [108, 101, 116] hs [108, 101, 116] rfl (by decide)
  have q1 := key_eq' _ [115, 101, 116] hs [115, 101, 116] rfl (by decide)
  have q2 := key_eq' _ [105, 102] hs [105, 102] rfl (by decide)
  have q3 := key_eq' _ [119, 104, 105, 108, 101] hs [119, 104, 105, 108, 101] rfl (by decide)
  have q4 := key_eq' _ [114, 101, 116, 117, 114, 110] hs [114, 101, 116, 117, 114, 110] rfl (by decide)
  have q5 := key_eq' _ [115, 101, 110, 100] hs [115, 101, 110, 100] rfl (by decide)
  have q6 := key_eq' _ [98, 101, 99, 111, 109, 101] hs [98, 101, 99, 111, 109, 101] rfl (by decide)
  have q7 := key_eq' _ [115, 116, 111, 112] hs [115, 116, 111, 112] rfl (by decide)
  have HKF : Hid (kindF (p.one T 4 keysS).1 = bif decide ((p.one T 4 keysS).1 = [108, 101, 116]) then 1 else bif decide ((p.one T 4 keysS).1 = [115, 101, 116]) then 2 else bif decide ((p.one T 4 keysS).1 = [105, 102]) then 3 else bif decide ((p.one T 4 keysS).1 = [119, 104, 105, 108, 101]) then 4 else bif decide ((p.one T 4 keysS).1 = [114, 101, 116, 117, 114, 110]) then 5 else bif decide ((p.one T 4 keysS).1 = [115, 101, 110, 100]) then 6 else bif decide ((p.one T 4 keysS).1 = [98, 101, 99, 111, 109, 101]) then 7 else bif decide ((p.one T 4 keysS).1 = [115, 116, 111, 112]) then 8 else 9) := Lib.hid (by unfold kindF; simp only [cond_eq_ite, decide_eq_true_eq])
  rw [HKF.out]
  clear HKF h ht hs
  generalize decide ((p.one T 4 keysS).1 = [108, 101, 116]) = b0 at *
  generalize decide ((p.one T 4 keysS).1 = [115, 101, 116]) = b1 at *
  generalize decide ((p.one T 4 keysS).1 = [105, 102]) = b2 at *
  generalize decide ((p.one T 4 keysS).1 = [119, 104, 105, 108, 101]) = b3 at *
  generalize decide ((p.one T 4 keysS).1 = [114, 101, 116, 117, 114, 110]) = b4 at *
  generalize decide ((p.one T 4 keysS).1 = [115, 101, 110, 100]) = b5 at *
  generalize decide ((p.one T 4 keysS).1 = [98, 101, 99, 111, 109, 101]) = b6 at *
  generalize decide ((p.one T 4 keysS).1 = [115, 116, 111, 112]) = b7 at *
  generalize p.one T 4 keysS = P at *
  obtain ⟨r, p1⟩ := P
  dsimp only at *
  generalize strOf r = S at *
  unfold at0 at *
  go_enter Tryz.func266, Tryz.ntmps266
  go_wp2_with fail
  refine (HO.out _).mono ?_
  rintro e w1 ⟨rfl, h1, hk⟩
  have H1 := Lib.hid h1
  have HK := Lib.hid hk
  clear h1 hk HO
  go_wp2_with fail
  all_goals
    go_ret
    refine ⟨?_, H1.out, HK.out⟩
    clear q0 q1 q2 q3 q4 q5 q6 q7 H1 HK
    subst_vars
    first | rfl | simp_all
end
end Go.Proofs.YteacmanbiamhoaaGreatDoor
