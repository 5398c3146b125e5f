/- Package tree: with, keyed: the walks. -/
import Derived.Test.YtpakjjefbholdaaGreatDoorTg
namespace Go.Proofs.YtpakjjefbholdaaGreatDoor
open Go.RowKit
set_option linter.unusedVariables false

/-- The four cells of a variable, stored. -/
def P4 (X : World) (g : Nat) (z0 z1 z2 z3 : Value) : World := (((X.setCell ⟨g, 0, none⟩ z0).setCell ⟨g, 1, none⟩ z1).setCell ⟨g, 2, none⟩ z2).setCell ⟨g, 3, none⟩ z3
theorem cell_ne {w : World} {g i : Nat} {v : Value} {p : Addr} (h : p.block ≠ g) : (w.setCell ⟨g, i, none⟩ v).cell? p = w.cell? p := by
  unfold World.cell? World.setCell
  dsimp only
  rw [Array.getElem?_modify, if_neg (fun e => h e.symm)]
def exZ : Obj := .cells #[.int .u8 0, .string ⟨#[]⟩, .int .i64 0, .slice none 0 0] 46
section
variable {w0 w X : World} {T : List Nat} {R : Ru} {q g : Nat} {p0 p : Pst} {z0 z1 z2 z3 : Value} {S : Nat → Prop} {nd : Nd} {v : Value}
theorem Rd.row_form {sz : Nat} {l : List Nd} (h : Rd X S (.row sz l) v) : ∃ A n c, v = .slice A n c := by
  rw [Rd] at h
  obtain ⟨A, c, rfl, -⟩ := h
  exact ⟨A, _, c, rfl⟩
theorem p4_size : (P4 X g z0 z1 z2 z3).heap.size = X.heap.size := by unfold P4; simp
theorem p4_cell {a : Addr} (h : a.block ≠ g) : (P4 X g z0 z1 z2 z3).cell? a = X.cell? a := by
  unfold P4
  rw [cell_ne h, cell_ne h, cell_ne h, cell_ne h]
theorem p4_heap {k : Nat} {o : Obj} (h : X.heap[k]? = some o) (hk : k ≠ g) : (P4 X g z0 z1 z2 z3).heap[k]? = some o := heap_set_ne (heap_set_ne (heap_set_ne (heap_set_ne h hk 0 z0) hk 1 z1) hk 2 z2) hk 3 z3
theorem Rd.p4 (h : Rd X S nd v) (hS : ∀ b, S b → b ≠ g) : Rd (P4 X g z0 z1 z2 z3) S nd v := Rd.keep (fun a ha => p4_cell (hS _ ha)) (fun _ h => h) _ _ h
theorem Kp.p4 (h : Kp q w X) (hg : w.heap.size ≤ g) : Kp q w (P4 X g z0 z1 z2 z3) := (((h.setNew (p := ⟨g, 0, none⟩) hg z0).setNew (p := ⟨g, 1, none⟩) hg z1).setNew (p := ⟨g, 2, none⟩) hg z2).setNew (p := ⟨g, 3, none⟩) hg z3
theorem Cx.p4 (h0 : Cx w0 T R q w p0) (hc : Cx w0 T R q X p) (hk : Kp q w X) (hg : w.heap.size ≤ g) : Cx w0 T R q (P4 X g z0 z1 z2 z3) p := by
  have := h0.lt
  exact h0.on (hk.p4 hg) (p4_heap hc.hp (by omega)) hc.ok
/-- The end: what was put together is stored, and told. -/
theorem endX (h0 : Cx w0 T R q w p0) (hc : Cx w0 T R q X p) (hk : Kp q w X) (hg : w.heap.size ≤ g) (hx : Rd X S nd (.agg #[z0, z1, z2, z3])) (hS : ∀ b, S b → b ≠ g ∧ Nw w X b) :
    OutX w0 T R q w nd p (.returned (.agg #[z0, z1, z2, z3])) (P4 X g z0 z1 z2 z3) :=
  ⟨_, rfl, Rd.keep (fun _ _ => rfl) (fun b hb => ⟨(hS b hb).2.1, by rw [p4_size]; exact (hS b hb).2.2⟩) _ _ (hx.p4 fun b hb => (hS b hb).1), h0.p4 hc hk hg, hk.p4 hg⟩
theorem p4_alloc_heap (o : Obj) (hg : g < X.heap.size) {k : Nat} (hk : k ≠ g) : ((P4 X g z0 z1 z2 z3).alloc o).heap[k]? = (X.alloc o).heap[k]? := by
  have hs : (P4 X g z0 z1 z2 z3).heap.size = X.heap.size := p4_size
  by_cases h1 : k < X.heap.size
  · rw [Below.heap_alloc _ o k (by omega), Below.heap_alloc _ o k h1]
    unfold P4 World.setCell
    simp only [Array.getElem?_modify]
    rw [if_neg (fun e => hk e.symm), if_neg (fun e => hk e.symm), if_neg (fun e => hk e.symm), if_neg (fun e => hk e.symm)]
  · by_cases h2 : k = X.heap.size
    · subst h2
      rw [heap_new X o, ← hs]
      exact heap_new _ o
    · rw [Array.getElem?_eq_none (by simp; omega), Array.getElem?_eq_none (by simp; omega)]
theorem p4_alloc_cell (o : Obj) (hg : g < X.heap.size) {a : Addr} (ha : a.block ≠ g) : ((P4 X g z0 z1 z2 z3).alloc o).cell? a = (X.alloc o).cell? a := by
  have := p4_alloc_heap (z0 := z0) (z1 := z1) (z2 := z2) (z3 := z3) o hg ha
  unfold World.cell?
  rw [this]
/-- .. where an array was made ahead of the store, and stands behind it. -/
theorem endXo (o : Obj) (h0 : Cx w0 T R q w p0) (hc : Cx w0 T R q X p) (hk : Kp q w X) (hg : w.heap.size ≤ g) (hgX : g < X.heap.size) (hx : Rd (X.alloc o) S nd (.agg #[z0, z1, z2, z3])) (hS : ∀ b, S b → b ≠ g ∧ Nw w (X.alloc o) b) :
    OutX w0 T R q w nd p (.returned (.agg #[z0, z1, z2, z3])) ((P4 X g z0 z1 z2 z3).alloc o) :=
  ⟨_, rfl, Rd.keep (fun a ha => p4_alloc_cell o hgX (hS _ ha).1) (fun b hb => ⟨(hS b hb).2.1, by have := (hS b hb).2.2; simp at this ⊢; rw [p4_size]; exact this⟩) _ _ hx, (h0.p4 hc hk hg).alloc o, (hk.p4 hg).alloc o⟩
end
section
variable {w0 : World} {T : List Nat} {R : Ru} {q : Nat} {or : Rr Ex} {m : Nat}
set_option maxRecDepth 100000 in
set_option maxHeartbeats 1600000 in
theorem withX_any (ht : TxtOk w0 T) (HX : XC w0 T R q or m) (hG : Gk or) (w : World) (p : Pst) (r : Ex × Pst) (h : Cx w0 T R q w p) (k kind : Nat) (hk : k ≤ 100000) (hg : p.g + m ≤ mostG) (hr : withF T or k kind p = some r) :
    Calls Tryz.prog 210 #[at0 q, .int .u8 (kind : Int)] w (OutX w0 T R q w r.1.nd r.2) := by
  have HN := Lib.hid (name_any' ht (h.alloc exZ))
  have hgn := name_g T p
  unfold withF at hr
  have HOK := Lib.hid (fun s p' (e : p.name T = (s, p')) => name_sok e h.ok)
  obtain ⟨s, p1, hP⟩ : ∃ s p1, p.name T = (s, p1) := ⟨_, _, rfl⟩
  have HSK := Lib.hid (HOK.out _ _ hP)
  rw [hP] at HN hr hgn
  dsimp only at HN hr hgn
  cases hl : listF T or k p1 with
  | none => rw [hl] at hr; cases hr
  | some y =>
    obtain ⟨l, p2⟩ := y
    rw [hl] at hr
    cases hr
    have HL := Lib.hid (fun w' (h' : Cx w0 T R q w' p1) => listX_any ht HX hG w' p1 (l, p2) h' k hk (by omega) hl)
    have H0 := Lib.hid h
    have HZ := Lib.hid (heap_new w exZ)
    have hq := h.lt
    have hqa : ¬ w.heap.size = q := by omega
    clear h ht HX hG hl hP hgn hg HOK
    unfold at0 lvF exZ at *
    go_enter Tryz.func210, Tryz.ntmps210
    go_wp2_with (first
      | (go_at_call 127
         refine HN.out.mono ?_
         rintro e w2 ⟨rfl, h2, hk2⟩
         have HC2 := Lib.hid h2
         have HK2 := Lib.hid (((Kp.refl q w).alloc _).trans hk2)
         have HZ2 := Lib.hid (hk2.heap HZ.out hqa)
         have hlt2 := h2.lt
         obtain ⟨⟨-, -, -, -, -, -, -, -, -, -, c10⟩, -⟩ := box11 h2.hp
         unfold lvF at0 at c10
         clear h2 hk2)
      | (go_at_call 186
         refine (HL.out _ HC2.out).mono ?_
         rintro e w3 ⟨v3, rfl, hx3, h3, hk3⟩
         have HC3 := Lib.hid h3
         have HK3 := Lib.hid (HK2.out.trans hk3)
         have HZ3 := Lib.hid (hk3.heap HZ2.out hqa)
         have hz3 := lt_heap HZ3.out
         obtain ⟨A3, n3, c3, rfl⟩ := hx3.row_form
         have HX3 := Lib.hid hx3
         have HE2 := Lib.hid (lt_heap HZ2.out)
         obtain ⟨⟨d0, d1, d2, d3⟩, f0, f1, f2, f3⟩ := box4f HZ3.out
         clear h3 hk3 hx3)
      | (fail))
    obtain ⟨⟨e0, e1, e2, e3⟩, -⟩ := box4f (set4 HZ3.out (.int .u8 (kind : Int)) (.string (strOf s)) (.int .i64 0) (.slice A3 n3 c3))
    refine bodyPost_ret (v := .agg #[.int .u8 (kind : Int), .string (strOf s), .int .i64 0, .slice A3 n3 c3]) (by simp [results, Tryz.results210, go_sem, e0, e1, e2, e3]) rfl ?_
    refine endX H0.out HC3.out HK3.out (Nat.le_refl _) ((Ex.rd kind s 0 l _).2 ⟨_, rfl, HSK.out.1, by have := HSK.out.2; omega, HX3.out⟩) (fun b hb => ⟨by have := hb.1; have := HE2.out; omega, Nat.le_trans HK2.out.size hb.1, hb.2⟩)
set_option maxHeartbeats 800000 in
theorem key_at {w : World} {p : Pst} (ht : TxtOk w0 T) (h : Cx w0 T R q w p) (says : List (List Nat)) (arr : Array Value) (t : TypeId) (c n g : Nat) (hg : g = w.heap.size) (hn : n = says.length) (ha : arr.toList = says.map fun s => Value.string (strOf s)) (h8 : ∀ t ∈ says, ∀ x ∈ t, x < 256) (hl : says.length ≤ 1000) :
    Calls Tryz.prog 87 #[at0 q, .slice (some ⟨g, 0, none⟩) n c] (w.alloc (.cells arr t)) fun e w' => e = .returned (.string (strOf (p.one T 4 says).1)) ∧ Cx w0 T R q w' (p.one T 4 says).2 ∧ Kp q w w' := by
  subst hg
  exact key_made ht h says arr t c n hn ha h8 hl
theorem sign_at {w : World} {p : Pst} (ht : TxtOk w0 T) (h : Cx w0 T R q w p) (says : List (List Nat)) (arr : Array Value) (t : TypeId) (c n g : Nat) (hg : g = w.heap.size) (hn : n = says.length) (ha : arr.toList = says.map fun s => Value.string (strOf s)) (h8 : ∀ t ∈ says, ∀ x ∈ t, x < 256) (hl : says.length ≤ 1000) :
    Calls Tryz.prog 121 #[at0 q, .slice (some ⟨g, 0, none⟩) n c] (w.alloc (.cells arr t)) fun e w' => e = .returned (.string (strOf (p.one T 5 says).1)) ∧ Cx w0 T R q w' (p.one T 5 says).2 ∧ Kp q w w' := by
  subst hg
  exact sign_made ht h says arr t c n hn ha h8 hl
set_option maxRecDepth 100000 in
set_option maxHeartbeats 4000000 in
theorem keyed_any (ht : TxtOk w0 T) (HX : XC w0 T R q or m) (hG : Gk or) (w : World) (p : Pst) (r : Ex × Pst) (h : Cx w0 T R q w p) (k : Nat) (hk : k ≤ 100000) (hg : p.g + m ≤ mostG) (hr : keyedF T or k p = some r) :
    Calls Tryz.prog 185 #[at0 q] w (OutX w0 T R q w r.1.nd r.2) := by
  have HO := Lib.hid (fun t => key_at ht (h.alloc exZ) keysE #[.string ⟨#[116, 114, 117, 101]⟩, .string ⟨#[102, 97, 108, 115, 101]⟩, .string ⟨#[115, 101, 108, 102]⟩, .string ⟨#[108, 101, 110]⟩, .string ⟨#[99, 97, 108, 108]⟩, .string ⟨#[115, 112, 97, 119, 110]⟩] t 6 6 (w.heap.size + 1) (by simp) rfl rfl (by decide) (by decide))
  have hs := (one_sok ht 4 keysE h.ok).1.1
  have q0 := key_eq' _ [116, 114, 117, 101] hs [116, 114, 117, 101] rfl (by decide)
  have q1 := key_eq' _ [102, 97, 108, 115, 101] hs [102, 97, 108, 115, 101] rfl (by decide)
  have q2 := key_eq' _ [115, 101, 108, 102] hs [115, 101, 108, 102] rfl (by decide)
  have q3 := key_eq' _ [108, 101, 110] hs [108, 101, 110] rfl (by decide)
  have q4 := key_eq' _ [99, 97, 108, 108] hs [99, 97, 108, 108] rfl (by decide)
  have q5 := key_eq' _ [115, 112, 97, 119, 110] hs [115, 112, 97, 119, 110] rfl (by decide)
  unfold keyedF at hr
  have hg1 := one_g T 4 keysE p
  obtain ⟨s, p1, hP⟩ : ∃ s p1, p.one T 4 keysE = (s, p1) := ⟨_, _, rfl⟩
  rw [hP] at HO hr hg1 q0 q1 q2 q3 q4 q5
  dsimp only at HO hr hg1 q0 q1 q2 q3 q4 q5
  have H0 := Lib.hid h
  have HZ := Lib.hid (heap_new w exZ)
  have hq := h.lt
  have hqa : ¬ w.heap.size = q := by omega
  clear hs hP
  by_cases k0 : s = [116, 114, 117, 101]
  · rw [if_pos k0] at hr
    rw [decide_eq_true k0] at q0
    clear k0 q1 q2 q3 q4 q5
    generalize strOf s = S at *
    cases hr
    clear ht HX hG hg hg1 h
    unfold at0 exZ at *
    go_enter Tryz.func185, Tryz.ntmps185
    go_wp2_with (first
      | (go_at_call 87
         refine (HO.out _).mono ?_
         rintro e w2 ⟨rfl, h2, hk2⟩
         have HC2 := Lib.hid h2
         have HK2 := Lib.hid (((Kp.refl q w).alloc _).trans hk2)
         have HZ2 := Lib.hid (hk2.heap HZ.out hqa)
         have hz2 := lt_heap HZ2.out
         obtain ⟨⟨d0, d1, d2, d3⟩, f0, f1, f2, f3⟩ := box4f HZ2.out
         clear h2 hk2)
      | (fail))
    obtain ⟨⟨e0, e1, e2, e3⟩, -⟩ := box4f (set4 HZ2.out (.int .u8 2) (.string ⟨#[]⟩) (.int .i64 1) (.slice none 0 0))
    refine bodyPost_ret (v := .agg #[.int .u8 2, .string ⟨#[]⟩, .int .i64 1, .slice none 0 0]) (by simp [results, Tryz.results185, go_sem, e0, e1, e2, e3]) rfl ?_
    exact endX H0.out HC2.out HK2.out (Nat.le_refl _) ((Ex.rd (S := fun _ => False) 2 [] 1 [] _).2 ⟨_, rfl, by simp, by simp, Rd.nil _⟩) (fun _ hb => hb.elim)
  · rw [if_neg k0] at hr
    rw [decide_eq_false k0] at q0
    clear k0
    by_cases k1 : s = [102, 97, 108, 115, 101]
    · rw [if_pos k1] at hr
      rw [decide_eq_true k1] at q1
      clear k1 q2 q3 q4 q5
      generalize strOf s = S at *
      cases hr
      clear ht HX hG hg hg1 h
      unfold at0 exZ at *
      go_enter Tryz.func185, Tryz.ntmps185
      go_wp2_with (first
        | (go_at_call 87
           refine (HO.out _).mono ?_
           rintro e w2 ⟨rfl, h2, hk2⟩
           have HC2 := Lib.hid h2
           have HK2 := Lib.hid (((Kp.refl q w).alloc _).trans hk2)
           have HZ2 := Lib.hid (hk2.heap HZ.out hqa)
           have hz2 := lt_heap HZ2.out
           obtain ⟨⟨d0, d1, d2, d3⟩, f0, f1, f2, f3⟩ := box4f HZ2.out
           clear h2 hk2)
        | (fail))
      obtain ⟨⟨e0, e1, e2, e3⟩, -⟩ := box4f (set4 HZ2.out (.int .u8 2) (.string ⟨#[]⟩) (.int .i64 0) (.slice none 0 0))
      refine bodyPost_ret (v := .agg #[.int .u8 2, .string ⟨#[]⟩, .int .i64 0, .slice none 0 0]) (by simp [results, Tryz.results185, go_sem, e0, e1, e2, e3]) rfl ?_
      exact endX H0.out HC2.out HK2.out (Nat.le_refl _) ((Ex.rd (S := fun _ => False) 2 [] 0 [] _).2 ⟨_, rfl, by simp, by simp, Rd.nil _⟩) (fun _ hb => hb.elim)
    · rw [if_neg k1] at hr
      rw [decide_eq_false k1] at q1
      clear k1
      by_cases k2 : s = [115, 101, 108, 102]
      · rw [if_pos k2] at hr
        rw [decide_eq_true k2] at q2
        clear k2 q3 q4 q5
        generalize strOf s = S at *
        cases hr
        clear ht HX hG hg hg1 h
        unfold at0 exZ at *
        go_enter Tryz.func185, Tryz.ntmps185
        go_wp2_with (first
          | (go_at_call 87
             refine (HO.out _).mono ?_
             rintro e w2 ⟨rfl, h2, hk2⟩
             have HC2 := Lib.hid h2
             have HK2 := Lib.hid (((Kp.refl q w).alloc _).trans hk2)
             have HZ2 := Lib.hid (hk2.heap HZ.out hqa)
             have hz2 := lt_heap HZ2.out
             obtain ⟨⟨d0, d1, d2, d3⟩, f0, f1, f2, f3⟩ := box4f HZ2.out
             clear h2 hk2)
          | (fail))
        obtain ⟨⟨e0, e1, e2, e3⟩, -⟩ := box4f (set4 HZ2.out (.int .u8 5) (.string ⟨#[]⟩) (.int .i64 0) (.slice none 0 0))
        refine bodyPost_ret (v := .agg #[.int .u8 5, .string ⟨#[]⟩, .int .i64 0, .slice none 0 0]) (by simp [results, Tryz.results185, go_sem, e0, e1, e2, e3]) rfl ?_
        exact endX H0.out HC2.out HK2.out (Nat.le_refl _) ((Ex.rd (S := fun _ => False) 5 [] 0 [] _).2 ⟨_, rfl, by simp, by simp, Rd.nil _⟩) (fun _ hb => hb.elim)
      · rw [if_neg k2] at hr
        rw [decide_eq_false k2] at q2
        clear k2
        by_cases k3 : s = [108, 101, 110]
        · rw [if_pos k3] at hr
          rw [decide_eq_true k3] at q3
          clear k3 q4 q5
          generalize strOf s = S at *
          have HM := Lib.hid (fun w' (h' : Cx w0 T R q w' p1) => must_any ht h' [40] ⟨#[40]⟩ rfl (by decide))
          have HMM := Lib.hid (fun p' w' (h' : Cx w0 T R q w' p') => must_any ht h' [41] ⟨#[41]⟩ rfl (by decide))
          have hg2 := must_g T [40] p1
          obtain ⟨b2, p2, hP2⟩ : ∃ b2 p2, p1.must T [40] = (b2, p2) := ⟨_, _, rfl⟩
          rw [hP2] at HM hr hg2
          dsimp only at HM hr hg2
          clear hP2
          cases ho : or p2 with
          | none => rw [ho] at hr; cases hr
          | some y =>
            obtain ⟨x, p3⟩ := y
            rw [ho] at hr
            cases hr
            have HXX := Lib.hid (fun w' (h' : Cx w0 T R q w' p2) => HX w' p2 _ h' (by omega) ho)
            clear ht HX hG hg hg1 hg2 h ho
            unfold at0 exZ at *
            go_enter Tryz.func185, Tryz.ntmps185
            go_upto_region 11 with (first
              | (go_at_call 87
                 refine (HO.out _).mono ?_
                 rintro e w2 ⟨rfl, h2, hk2⟩
                 have HC2 := Lib.hid h2
                 have HK2 := Lib.hid (((Kp.refl q w).alloc _).trans hk2)
                 have HZ2 := Lib.hid (hk2.heap HZ.out hqa)
                 have hz2 := lt_heap HZ2.out
                 obtain ⟨⟨d0, d1, d2, d3⟩, f0, f1, f2, f3⟩ := box4f HZ2.out
                 clear h2 hk2)
              | (go_at_call 130
                 refine (HM.out _ HC2.out).mono ?_
                 rintro e w3 ⟨rfl, h3, hk3⟩
                 have HC3 := Lib.hid h3
                 have HK3 := Lib.hid (HK2.out.trans hk3)
                 have HZ3 := Lib.hid (hk3.heap HZ2.out hqa)
                 obtain ⟨⟨-, -, -, -, -, -, -, -, -, -, c10⟩, -⟩ := box11 h3.hp
                 unfold lvF at c10
                 have hlt3 := h3.lt
                 clear h3 hk3 d0 d1 d2 d3 f0 f1 f2 f3)
              | (go_at_call 120
                 refine (HXX.out _ HC3.out).mono ?_
                 rintro e w4 ⟨v4, rfl, hx4, h4, hk4⟩
                 have HC4 := Lib.hid h4
                 have HK4 := Lib.hid (HK3.out.trans hk4)
                 have HK34 := Lib.hid hk4
                 have HZ4 := Lib.hid (hk4.heap HZ3.out hqa)
                 obtain ⟨k0, s0, n0, l0⟩ := x
                 obtain ⟨y, rfl, -, -, hy⟩ := (Ex.rd k0 s0 n0 l0 v4).1 hx4
                 obtain ⟨A4, n4, c4, rfl⟩ := hy.row_form
                 have HX4 := Lib.hid hx4
                 have HE3 := Lib.hid (lt_heap HZ3.out)
                 clear h4 hk4 hx4 hy)
              | (fail))
            have HQ5 := Lib.hid (heap_new w4 (.cells #[.int .u8 (k0 : Int), .string (strOf s0), .int .i64 n0, .slice A4 n4 c4] 46))
            have HM5 := Lib.hid (HMM.out p3 _ (HC4.out.alloc (.cells #[.int .u8 (k0 : Int), .string (strOf s0), .int .i64 n0, .slice A4 n4 c4] 46)))
            have hlt4 := HC4.out.lt
            have hqb : ¬ w4.heap.size = q := by omega
            go_wp2_with (first
              | (go_at_call 130
                 refine HM5.out.mono ?_
                 rintro e w5 ⟨rfl, h5, hk5⟩
                 have HC5 := Lib.hid h5
                 have hkk : Kp q w4 w5 := ((Kp.refl q w4).alloc _).trans hk5
                 have HK5 := Lib.hid (HK4.out.trans hkk)
                 have HK35 := Lib.hid (HK34.out.trans hkk)
                 have HZ5 := Lib.hid (hkk.heap HZ4.out hqa)
                 obtain ⟨⟨i0, i1, i2, i3⟩, -⟩ := box4f (hk5.heap HQ5.out hqb)
                 obtain ⟨⟨d0, d1, d2, d3⟩, f0, f1, f2, f3⟩ := box4f HZ5.out
                 have HX5 := Lib.hid (HX4.out.more hkk HC3.out.lt)
                 have hz5 := lt_heap HZ5.out
                 clear h5 hk5 hkk)
              | (fail))
            have HR5 := Lib.hid (RowX.lit w3 w5 46 #[.int .u8 (k0 : Int), .string (strOf s0), .int .i64 n0, .slice A4 n4 c4] (Ex.nd (.mk k0 s0 n0 l0)) 4 rfl HK35.out.size HX5.out).rd
            obtain ⟨⟨e0, e1, e2, e3⟩, -⟩ := box4f (heap_old (set4 HZ5.out (.int .u8 9) (.string ⟨#[]⟩) (.int .i64 0) (.slice (some ⟨w5.heap.size, 0, none⟩) 1 1)) (.cells #[.int .u8 (k0 : Int), .string (strOf s0), .int .i64 n0, .slice A4 n4 c4] 46))
            refine bodyPost_ret (v := .agg #[.int .u8 9, .string ⟨#[]⟩, .int .i64 0, .slice (some ⟨w5.heap.size, 0, none⟩) 1 1]) (by simp [results, Tryz.results185, go_sem, e0, e1, e2, e3]) rfl ?_
            exact endXo _ H0.out HC5.out HK5.out (Nat.le_refl _) hz5 ((Ex.rd 9 [] 0 [.mk k0 s0 n0 l0] _).2 ⟨_, rfl, by simp, by simp, HR5.out⟩) (fun b hb => ⟨by have := hb.1; have := HE3.out; omega, Nat.le_trans HK3.out.size hb.1, hb.2⟩)
        · rw [if_neg k3] at hr
          rw [decide_eq_false k3] at q3
          clear k3
          by_cases k4 : s = [99, 97, 108, 108]
          · rw [if_pos k4] at hr
            rw [decide_eq_true k4] at q4
            clear k4 q5
            generalize strOf s = S at *
            have HW := Lib.hid (fun w' (h' : Cx w0 T R q w' p1) => withX_any ht HX hG w' p1 r h' k 10 hk (by omega) hr)
            clear ht HX hG hg hg1 h hr
            obtain ⟨x, p2⟩ := r
            unfold at0 exZ at *
            go_enter Tryz.func185, Tryz.ntmps185
            go_wp2_with (first
              | (go_at_call 87
                 refine (HO.out _).mono ?_
                 rintro e w2 ⟨rfl, h2, hk2⟩
                 have HC2 := Lib.hid h2
                 have HK2 := Lib.hid (((Kp.refl q w).alloc _).trans hk2)
                 have HZ2 := Lib.hid (hk2.heap HZ.out hqa)
                 have hz2 := lt_heap HZ2.out
                 obtain ⟨⟨d0, d1, d2, d3⟩, f0, f1, f2, f3⟩ := box4f HZ2.out
                 clear h2 hk2)
              | (go_at_call 210
                 refine (HW.out _ HC2.out).mono ?_
                 rintro e w3 ⟨v3, rfl, hx3, h3, hk3⟩
                 have HC3 := Lib.hid h3
                 have HK3 := Lib.hid (HK2.out.trans hk3)
                 have HZ3 := Lib.hid (hk3.heap HZ2.out hqa)
                 obtain ⟨k0, s0, n0, l0⟩ := x
                 obtain ⟨y, rfl, -, -, hy⟩ := (Ex.rd k0 s0 n0 l0 v3).1 hx3
                 obtain ⟨A3, n3, c3, rfl⟩ := hy.row_form
                 have HX3 := Lib.hid hx3
                 have HE2 := Lib.hid hz2
                 have hz3 := lt_heap HZ3.out
                 clear d0 d1 d2 d3 f0 f1 f2 f3
                 obtain ⟨⟨d0, d1, d2, d3⟩, f0, f1, f2, f3⟩ := box4f HZ3.out
                 clear h3 hk3 hx3 hy)
              | (fail))
            obtain ⟨⟨e0, e1, e2, e3⟩, -⟩ := box4f (set4 HZ3.out (.int .u8 (k0 : Int)) (.string (strOf s0)) (.int .i64 n0) (.slice A3 n3 c3))
            refine bodyPost_ret (v := .agg #[.int .u8 (k0 : Int), .string (strOf s0), .int .i64 n0, .slice A3 n3 c3]) (by simp [results, Tryz.results185, go_sem, e0, e1, e2, e3]) rfl ?_
            exact endX H0.out HC3.out HK3.out (Nat.le_refl _) HX3.out (fun b hb => ⟨by have := hb.1; have := HE2.out; omega, Nat.le_trans HK2.out.size hb.1, hb.2⟩)
          · rw [if_neg k4] at hr
            rw [decide_eq_false k4] at q4
            clear k4
            by_cases k5 : s = [115, 112, 97, 119, 110]
            · rw [if_pos k5] at hr
              rw [decide_eq_true k5] at q5
              clear k5
              generalize strOf s = S at *
              have HW := Lib.hid (fun w' (h' : Cx w0 T R q w' p1) => withX_any ht HX hG w' p1 r h' k 11 hk (by omega) hr)
              clear ht HX hG hg hg1 h hr
              obtain ⟨x, p2⟩ := r
              unfold at0 exZ at *
              go_enter Tryz.func185, Tryz.ntmps185
              go_wp2_with (first
                | (go_at_call 87
                   refine (HO.out _).mono ?_
                   rintro e w2 ⟨rfl, h2, hk2⟩
                   have HC2 := Lib.hid h2
                   have HK2 := Lib.hid (((Kp.refl q w).alloc _).trans hk2)
                   have HZ2 := Lib.hid (hk2.heap HZ.out hqa)
                   have hz2 := lt_heap HZ2.out
                   obtain ⟨⟨d0, d1, d2, d3⟩, f0, f1, f2, f3⟩ := box4f HZ2.out
                   clear h2 hk2)
                | (go_at_call 210
                   refine (HW.out _ HC2.out).mono ?_
                   rintro e w3 ⟨v3, rfl, hx3, h3, hk3⟩
                   have HC3 := Lib.hid h3
                   have HK3 := Lib.hid (HK2.out.trans hk3)
                   have HZ3 := Lib.hid (hk3.heap HZ2.out hqa)
                   obtain ⟨k0, s0, n0, l0⟩ := x
                   obtain ⟨y, rfl, -, -, hy⟩ := (Ex.rd k0 s0 n0 l0 v3).1 hx3
                   obtain ⟨A3, n3, c3, rfl⟩ := hy.row_form
                   have HX3 := Lib.hid hx3
                   have HE2 := Lib.hid hz2
                   have hz3 := lt_heap HZ3.out
                   clear d0 d1 d2 d3 f0 f1 f2 f3
                   obtain ⟨⟨d0, d1, d2, d3⟩, f0, f1, f2, f3⟩ := box4f HZ3.out
                   clear h3 hk3 hx3 hy)
                | (fail))
              obtain ⟨⟨e0, e1, e2, e3⟩, -⟩ := box4f (set4 HZ3.out (.int .u8 (k0 : Int)) (.string (strOf s0)) (.int .i64 n0) (.slice A3 n3 c3))
              refine bodyPost_ret (v := .agg #[.int .u8 (k0 : Int), .string (strOf s0), .int .i64 n0, .slice A3 n3 c3]) (by simp [results, Tryz.results185, go_sem, e0, e1, e2, e3]) rfl ?_
              exact endX H0.out HC3.out HK3.out (Nat.le_refl _) HX3.out (fun b hb => ⟨by have := hb.1; have := HE2.out; omega, Nat.le_trans HK2.out.size hb.1, hb.2⟩)
            · rw [if_neg k5] at hr
              rw [decide_eq_false k5] at q5
              clear k5
              generalize strOf s = S at *
              cases hr
              have HF := Lib.hid (fun w' (h' : Cx w0 T R q w' p1) => fail_any h' 101)
              clear ht HX hG hg hg1 h
              unfold at0 exZ at *
              go_enter Tryz.func185, Tryz.ntmps185
              go_wp2_with (first
                | (go_at_call 87
                   refine (HO.out _).mono ?_
                   rintro e w2 ⟨rfl, h2, hk2⟩
                   have HC2 := Lib.hid h2
                   have HK2 := Lib.hid (((Kp.refl q w).alloc _).trans hk2)
                   have HZ2 := Lib.hid (hk2.heap HZ.out hqa)
                   have hz2 := lt_heap HZ2.out
                   obtain ⟨⟨d0, d1, d2, d3⟩, f0, f1, f2, f3⟩ := box4f HZ2.out
                   clear h2 hk2)
                | (go_at_call 90
                   refine (HF.out _ HC2.out).mono ?_
                   rintro e w3 ⟨rfl, h3, hk3⟩
                   have HC3 := Lib.hid h3
                   have HK3 := Lib.hid (HK2.out.trans hk3)
                   have HZ3 := Lib.hid (hk3.heap HZ2.out hqa)
                   have hz3 := lt_heap HZ3.out
                   clear d0 d1 d2 d3 f0 f1 f2 f3
                   obtain ⟨⟨d0, d1, d2, d3⟩, f0, f1, f2, f3⟩ := box4f HZ3.out
                   clear h3 hk3)
                | (fail))
              obtain ⟨⟨e0, e1, e2, e3⟩, -⟩ := box4f (set4 HZ3.out (.int .u8 0) (.string ⟨#[]⟩) (.int .i64 0) (.slice none 0 0))
              refine bodyPost_ret (v := .agg #[.int .u8 0, .string ⟨#[]⟩, .int .i64 0, .slice none 0 0]) (by simp [results, Tryz.results185, go_sem, e0, e1, e2, e3]) rfl ?_
              exact endX H0.out HC3.out HK3.out (Nat.le_refl _) ((Ex.rd (S := fun _ => False) 0 [] 0 [] _).2 ⟨_, rfl, by simp, by simp, Rd.nil _⟩) (fun _ hb => hb.elim)
end
end Go.Proofs.YtpakjjefbholdaaGreatDoor
