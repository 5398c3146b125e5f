/- Package tree: post: the walk. -/
import Derived.Test.YtpakjjefbholdaaGreatDoorTi
import Derived.Deep.RegionLaw
namespace Go.Proofs.YtpakjjefbholdaaGreatDoor
open Go.RowKit
set_option linter.unusedVariables false

/-- Structs in an array that was just made are a row. -/
theorem Rd.lit {wr : World} {S : Nat → Prop} {E : TypeId} {arr : Array Value} {n k : Nat} {l : List Nd} (hS : ∀ b, S b → b < wr.heap.size) (hf : Flat wr S n arr.toList l) (hk : l.length = k) (hm : k ≤ 1000) :
    Rd (wr.alloc (.cells arr E)) (fun b => S b ∨ b = wr.heap.size) (.row n l) (.slice (some ⟨wr.heap.size, 0, none⟩) k k) := by
  have hs := hf.1
  have h1 := World.ownsRow_lit (e := E) (size := n) (base := wr.heap.size) wr arr k (Nat.le_refl _) (by unfold maxLen; omega) (by simp at hs; rw [hs, hk])
  subst hk
  refine (hf.keep (S' := fun b => S b ∨ b = wr.heap.size) (fun p hp => ((Below.refl _ wr).alloc (Nat.le_refl _) _).cell (hS _ hp)) (fun b hb => .inl hb)).row h1 (fun b h2 h3 => ?_)
  right
  simp at h3
  omega
theorem Flat.two {w : World} {S : Nat → Prop} {n : Nat} {a b : List Value} {x y : Nd} (ha : a.length = n) (hb : b.length = n) (hx : Rd w S x (.agg a.toArray)) (hy : Rd w S y (.agg b.toArray)) : Flat w S n (a ++ b) [x, y] := by
  have := ((Flat.nil w S n).snoc ha hx).snoc hb hy
  simpa using this
theorem Flat.one {w : World} {S : Nat → Prop} {n : Nat} {a : List Value} {x : Nd} (ha : a.length = n) (hx : Rd w S x (.agg a.toArray)) : Flat w S n a [x] := by
  have := (Flat.nil w S n).snoc ha hx
  simpa using this
section
variable {w0 : World} {T : List Nat} {R : Ru} {q : Nat} {or : Rr Ex} {m : Nat}
/-- A variable that holds an expression, beside the variable for the result. -/
structure EAt (w X : World) (g0 g3 : Nat) (x : Ex) (k0 : Nat) (s0 : List Nat) (n0 : Int) (A : Option Addr) (n c : Nat) : Prop where
  e : X.heap[g3]? = some (.cells #[.int .u8 (k0 : Int), .string (strOf s0), .int .i64 n0, .slice A n c] 46 (0, 0))
  z : X.heap[g0]? = some (.cells #[.int .u8 0, .string ⟨#[]⟩, .int .i64 0, .slice none 0 0] 46 (0, 0))
  r : Rd X (fun b => Nw w X b ∧ b ≠ g0 ∧ b ≠ g3) x.nd (.agg #[.int .u8 (k0 : Int), .string (strOf s0), .int .i64 n0, .slice A n c])
theorem EAt.kp {w X Y : World} {g0 g3 : Nat} {x : Ex} {k0 : Nat} {s0 : List Nat} {n0 : Int} {A : Option Addr} {n c : Nat} (h : EAt w X g0 g3 x k0 s0 n0 A n c) (k : Kp q X Y) (hq : q < w.heap.size) (h0 : g0 ≠ q) (h3 : g3 ≠ q) : EAt w Y g0 g3 x k0 s0 n0 A n c :=
  ⟨k.heap h.e h3, k.heap h.z h0, Rd.keep (fun p hp => k.cellq hp.1.2 (by have := hp.1.1; omega)) (fun b hb => ⟨⟨hb.1.1, Nat.lt_of_lt_of_le hb.1.2 k.size⟩, hb.2⟩) _ _ h.r⟩
/-- .. where it was just stored. -/
theorem EAt.made {w Y : World} {b : World} {g0 : Nat} {k0 : Nat} {s0 : List Nat} {n0 : Int} {l0 : List Ex} {A : Option Addr} {n c : Nat} (hz : Y.heap[g0]? = some (.cells #[.int .u8 0, .string ⟨#[]⟩, .int .i64 0, .slice none 0 0] 46 (0, 0))) (hw : w.heap.size ≤ b.heap.size) (hg0 : g0 < b.heap.size)
    (hx : Rd Y (Nw b Y) (Ex.nd (.mk k0 s0 n0 l0)) (.agg #[.int .u8 (k0 : Int), .string (strOf s0), .int .i64 n0, .slice A n c])) :
    EAt w (Y.alloc (.cells #[.int .u8 (k0 : Int), .string (strOf s0), .int .i64 n0, .slice A n c] 46)) g0 Y.heap.size (.mk k0 s0 n0 l0) k0 s0 n0 A n c :=
  ⟨heap_new _ _, heap_old hz _, Rd.keep (fun p hp => ((Below.refl _ Y).alloc (Nat.le_refl _) _).cell hp.2) (fun k hk => by
    have h1 := hk.1
    have h2 := hk.2
    refine ⟨⟨by omega, by simp; omega⟩, by omega, by omega⟩) _ _ hx⟩
/-- An operation of what was there, and one more. -/
theorem EAt.step {w X b : World} {g0 g3 : Nat} {x : Ex} {k0 : Nat} {s0 : List Nat} {n0 : Int} {A : Option Addr} {n c : Nat} {k1 : Nat} {s1 : List Nat} {n1 : Int} {l1 : List Ex} {A1 : Option Addr} {m1 c1 : Nat}
    (h : EAt w X g0 g3 x k0 s0 n0 A n c) (hb : Rd X (Nw b X) (Ex.nd (.mk k1 s1 n1 l1)) (.agg #[.int .u8 (k1 : Int), .string (strOf s1), .int .i64 n1, .slice A1 m1 c1]))
    (hwb : w.heap.size ≤ b.heap.size) (h0b : g0 < b.heap.size) (h3b : g3 < b.heap.size) (h03 : g0 ≠ g3) (hwg : w.heap.size ≤ g0) (kk : Nat) (s : List Nat) (hs : Sok s) :
    EAt w ((P4 X g3 (.int .u8 (kk : Int)) (.string (strOf s)) (.int .i64 0) (.slice (some ⟨X.heap.size, 0, none⟩) 2 2)).alloc (.cells #[.int .u8 (k0 : Int), .string (strOf s0), .int .i64 n0, .slice A n c, .int .u8 (k1 : Int), .string (strOf s1), .int .i64 n1, .slice A1 m1 c1] 46)) g0 g3 (.mk kk s 0 [x, .mk k1 s1 n1 l1]) kk s 0 (some ⟨X.heap.size, 0, none⟩) 2 2 := by
  have hg3 := lt_heap h.e
  have hg0 := lt_heap h.z
  have hf : Flat X (fun b => Nw w X b ∧ b ≠ g0 ∧ b ≠ g3) 4 ([.int .u8 (k0 : Int), .string (strOf s0), .int .i64 n0, .slice A n c] ++ [.int .u8 (k1 : Int), .string (strOf s1), .int .i64 n1, .slice A1 m1 c1]) [x.nd, Ex.nd (.mk k1 s1 n1 l1)] :=
    Flat.two rfl rfl h.r (Rd.keep (fun _ _ => rfl) (fun k hk => ⟨⟨Nat.le_trans hwb hk.1, hk.2⟩, by have := hk.1; omega, by have := hk.1; omega⟩) _ _ hb)
  have hl := Rd.lit (E := 46) (arr := #[.int .u8 (k0 : Int), .string (strOf s0), .int .i64 n0, .slice A n c, .int .u8 (k1 : Int), .string (strOf s1), .int .i64 n1, .slice A1 m1 c1]) (k := 2) (fun b hb => hb.1.2) hf rfl (by omega)
  refine ⟨heap_old (set4 h.e _ _ _ _) _, heap_old (p4_heap h.z h03) _, (Ex.rd kk s 0 _ _).2 ⟨_, rfl, hs.1, by have := hs.2; omega, ?_⟩⟩
  refine Rd.keep (fun a ha => p4_alloc_cell _ hg3 ?_) (fun b hb => ?_) _ _ hl
  · rcases ha with ha | ha
    · exact ha.2.2
    · omega
  · rcases hb with hb | hb
    · exact ⟨⟨hb.1.1, by have := hb.1.2; simp; rw [p4_size]; omega⟩, hb.2⟩
    · subst hb
      have hwx : w.heap.size ≤ X.heap.size := by omega
      exact ⟨⟨hwx, by simp; rw [p4_size]; omega⟩, by omega, by omega⟩
set_option maxRecDepth 100000 in
set_option maxHeartbeats 4000000 in
theorem post_any (ht : TxtOk w0 T) (HX : XC w0 T R q or m) (hG : Gk or) (w : World) (p : Pst) (r : Ex × Pst) (h : Cx w0 T R q w p) (k : Nat) (hk : k ≤ 100000) (hg : p.g + m ≤ mostG) (hr : postF T or k p = some r) :
    Calls Tryz.prog 124 #[at0 q] w (OutX w0 T R q w r.1.nd r.2) := by
  unfold postF at hr
  cases hp : primaryF T or k p with
  | none => rw [hp] at hr; cases hr
  | some y =>
    obtain ⟨x, p1⟩ := y
    rw [hp] at hr
    dsimp only at hr
    have HP := Lib.hid (primary_any ht HX hG _ p (x, p1) (h.alloc exZ) k hk hg hp)
    have HG1 : Hid (p1.g = p.g) := Lib.hid (primaryF_g hG k _ _ hp)
    have HSS := Lib.hid (fun p' w' (h' : Cx w0 T R q w' p') => sign_made ht h' [[91]] #[.string ⟨#[91]⟩] 9 1 1 rfl rfl (by decide) (by decide))
    have HMM := Lib.hid (fun p' w' (h' : Cx w0 T R q w' p') => must_any ht h' [93] ⟨#[93]⟩ rfl (by decide))
    have HGG := Lib.hid (fun p' : Pst => one_g T 5 [[91]] p')
    have HXX := Lib.hid (fun w' p' (rr : Ex × Pst) (h' : Cx w0 T R q w' p') (hg' : p'.g = p.g) (ho' : or p' = some rr) => HX w' p' rr h' (by omega) ho')
    have HR := Lib.hid hr
    have H0 := Lib.hid h
    have HZ := Lib.hid (heap_new w exZ)
    have hq := h.lt
    have hqa : ¬ w.heap.size = q := by omega
    clear h ht HX hp hr hg
    unfold at0 exZ at *
    go_enter Tryz.func124, Tryz.ntmps124
    go_upto_region 2 with (first
      | (go_at_call 156
         refine HP.out.mono ?_
         rintro e w2 ⟨v2, rfl, hx2, h2, hk2⟩
         obtain ⟨k0, s0, n0, l0⟩ := x
         obtain ⟨y, rfl, -, -, hy⟩ := (Ex.rd k0 s0 n0 l0 v2).1 hx2
         obtain ⟨A2, n2, c2, rfl⟩ := hy.row_form
         have HC2 := Lib.hid h2
         have HK2 := Lib.hid (((Kp.refl q w).alloc _).trans hk2)
         have HE2 := Lib.hid (EAt.made (w := w) (b := w.alloc (.cells #[.int .u8 0, .string ⟨#[]⟩, .int .i64 0, .slice none 0 0] 46)) (hk2.heap HZ.out hqa) (by simp) (by simp) hx2)
         have hz2 := lt_heap (hk2.heap HZ.out hqa)
         clear h2 hk2 hx2 hy)
      | (fail))
    go_loopg [] k (fun g wr => ∃ (x : Ex) (pj : Pst) (k0 : Nat) (s0 : List Nat) (n0 : Int) (A : Option Addr) (n c : Nat), Hid (placesF T or g x pj = some r) ∧ Hid (pj.g = p.g) ∧ Hid (EAt w wr w.heap.size w2.heap.size x k0 s0 n0 A n c) ∧ Hid (Cx w0 T R q wr pj) ∧ Hid (Kp q w wr))
    case atStart => exact ⟨_, p1, k0, s0, n0, A2, n2, c2, HR, HG1, HE2, Lib.hid (HC2.out.alloc _), Lib.hid (HK2.out.alloc _)⟩
    case round =>
      obtain ⟨x, pj, k0, s0, n0, A, n, c, HF, HGJ, HE, HCj, HKj⟩ := hrel
      cases gk with
      | zero => exact absurd HF.out (by simp [placesF])
      | succ g =>
        have hF := HF.out
        rw [placesF] at hF
        have HS4 := Lib.hid (HSS.out pj wr HCj.out)
        have hg4 := HGG.out pj
        obtain ⟨s4, p4, hP4⟩ : ∃ s4 p4, pj.one T 5 [[91]] = (s4, p4) := ⟨_, _, rfl⟩
        rw [hP4] at hF HS4 hg4
        dsimp only at hF HS4 hg4
        have he4 : (strOf s4).toList.isEmpty = decide (s4 = []) := one_empty _
        have hszr : w.heap.size ≤ wr.heap.size := HKj.out.size
        have hqb : ¬ w2.heap.size = q := by have := HK2.out.size; omega
        have hlw : w.heap.size < w2.heap.size := hz2
        clear hP4 HE2 HC2
        by_cases h4 : s4 = []
        · rw [if_pos h4] at hF
          rw [decide_eq_true h4] at he4
          cases hF
          clear HF h4 HXX HR hg4
          go_wp2_with (first
            | (go_at_call 121
               refine HS4.out.mono ?_
               rintro e w5 ⟨rfl, h5, hk5⟩
               have HH5 := Lib.hid h5
               have HK5 := Lib.hid (HKj.out.trans hk5)
               have HE5 := Lib.hid (HE.out.kp hk5 hq hqa hqb)
               obtain ⟨⟨d0, d1, d2, d3⟩, -⟩ := box4f HE5.out.e
               obtain ⟨⟨i0, i1, i2, i3⟩, f0, f1, f2, f3⟩ := box4f HE5.out.z
               have hz5 := lt_heap HE5.out.z
               clear h5 hk5)
            | (fail))
          obtain ⟨⟨e0, e1, e2, e3⟩, -⟩ := box4f (set4 HE5.out.z (.int .u8 (k0 : Int)) (.string (strOf s0)) (.int .i64 n0) (.slice A n c))
          refine bodyPost_ret (v := .agg #[.int .u8 (k0 : Int), .string (strOf s0), .int .i64 n0, .slice A n c]) (by simp [results, Tryz.results124, go_sem, e0, e1, e2, e3]) rfl ?_
          exact endX H0.out HH5.out HK5.out (Nat.le_refl _) HE5.out.r (fun b hb => ⟨hb.2.1, hb.1⟩)
        · rw [if_neg h4] at hF
          rw [decide_eq_false h4] at he4
          cases ho4 : or p4 with
          | none => rw [ho4] at hF; cases hF
          | some y4 =>
            obtain ⟨x4, p5⟩ := y4
            rw [ho4] at hF
            dsimp only at hF
            have HF5 := Lib.hid hF
            have HG5 : Hid ((p5.must T [93]).2.g = p.g) := Lib.hid (by have := hG _ _ ho4; rw [must_g, show p5.g = _ from this, hg4, HGJ.out])
            have HX4 := Lib.hid (fun w' (h' : Cx w0 T R q w' p4) => HXX.out w' p4 _ h' (by rw [hg4, HGJ.out]) ho4)
            clear HF hF h4 HR hg4 ho4 HSS HXX HGG
            go_upto_region 3 with (first
              | (go_at_call 121
                 refine HS4.out.mono ?_
                 rintro e w5 ⟨rfl, h5, hk5⟩
                 have HH5 := Lib.hid h5
                 have HK5 := Lib.hid (HKj.out.trans hk5)
                 have HE5 := Lib.hid (HE.out.kp hk5 hq hqa hqb)
                 clear h5 hk5)
              | (fail))
            obtain ⟨⟨d0, d1, d2, d3⟩, -⟩ := box4f HE5.out.e
            obtain ⟨⟨-, -, -, -, -, -, -, -, -, -, c10⟩, -⟩ := box11 HH5.out.hp
            unfold lvF at0 at c10
            have hlt5 := HH5.out.lt
            have hz5 := lt_heap HE5.out.e
            have HL5 := Lib.hid (lt_heap HE5.out.z)
            go_cut [] (fun wx => ∃ A' , Hid (EAt w wx w.heap.size w2.heap.size (.mk 8 [] 0 [x, x4]) 8 [] 0 A' 2 2) ∧ Hid (Cx w0 T R q wx p5) ∧ Hid (Kp q w wx))
            case first =>
              go_region_law (first
                | (go_simp
                   go_at_call 120
                   refine (HX4.out _ HH5.out.drew).mono ?_
                   rintro e w6 ⟨v6, rfl, hx6, h6, hk6⟩
                   have hk6' : Kp q w5 w6 := ((Kp.refl q w5).drew).trans hk6
                   obtain ⟨k1, s1, n1, l1⟩ := x4
                   obtain ⟨y, rfl, -, -, hy⟩ := (Ex.rd k1 s1 n1 l1 v6).1 hx6
                   obtain ⟨A1, m1, c1, rfl⟩ := hy.row_form
                   have HX6 : Hid (Rd w6 (Nw w5 w6) (Ex.nd (.mk k1 s1 n1 l1)) (.agg #[.int .u8 (k1 : Int), .string (strOf s1), .int .i64 n1, .slice A1 m1 c1])) := Lib.hid hx6
                   have HC6 := Lib.hid h6
                   have HE6 := Lib.hid (HE5.out.kp hk6' hq hqa hqb)
                   have HK6 := Lib.hid (HK5.out.trans hk6')
                   obtain ⟨⟨i0, i1, i2, i3⟩, f0, f1, f2, f3⟩ := box4f HE6.out.e
                   have hz6 := lt_heap HE6.out.e
                   clear h6 hk6 hk6' hx6 hy)
                | (fail))
              all_goals
                go_wp2_with fail
                go_meet
                case rel =>
                  exact ⟨some ⟨w6.heap.size, 0, none⟩, Lib.hid (EAt.step HE6.out HX6.out (by omega) (by omega) hz5 (by omega) (Nat.le_refl _) 8 [] ⟨by simp, by simp⟩), Lib.hid ((H0.out.p4 HC6.out HK6.out (by omega)).alloc _), Lib.hid ((HK6.out.p4 (by omega)).alloc _)⟩
            case rest =>
              obtain ⟨A', HE6, HC6, HK6⟩ := hcut
              have HM6 := Lib.hid (HMM.out p5 wc HC6.out)
              clear HE HE5 HCj HKj HS4 HX4 HH5 HK5 d0 d1 d2 d3 c10
              go_wp2_with (first
                | (go_at_call 130
                   refine HM6.out.mono ?_
                   rintro e w7 ⟨rfl, h7, hk7⟩
                   have HH7 := Lib.hid h7
                   have HK7 := Lib.hid (HK6.out.trans hk7)
                   have HE7 := Lib.hid (HE6.out.kp hk7 hq hqa hqb)
                   clear h7 hk7)
                | (fail))
              go_roundg g
              case measure => omega
              case rel => exact ⟨_, _, 8, [], 0, A', 2, 2, HF5, HG5, HE7, HH7, HK7⟩
end
end Go.Proofs.YtpakjjefbholdaaGreatDoor
