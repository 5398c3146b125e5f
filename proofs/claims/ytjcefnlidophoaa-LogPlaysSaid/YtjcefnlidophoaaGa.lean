/- Texts Mem, Own, Num, Crc, Seal, Low, Sum of this seat in one: see each part. -/
import Derived.WalkKit
import Derived.Maps.AppendAt
import Derived.Deep.Draws
import Derived.Lib.Hide
import Derived.Lib.BitFns
import Derived.Test.YtjcefnlidophoaaChecked
namespace Go.Proofs.Ytjcefnlidophoaa
open Go.RowKit

/-- From address A on, the cells xs stand in w, in a block below B. Of an empty list nothing is asked. -/
def At (w : World) (B : Nat) (A : Option Addr) (xs : List Value) : Prop :=
  xs ≠ [] → ∃ b o, A = some ⟨b, o, none⟩ ∧ b < B ∧ ∀ i x, xs[i]? = some x → w.cell? ⟨b, o + i, none⟩ = some x

/-- A further call, that keeps all that lay below the heap's end when it began. -/
theorem nxt {a b c : World} (h : Below a.heap.size a b) (k : Below b.heap.size b c) : Below a.heap.size a c := h.trans (k.mono h.size)

section
variable {w w' : World} {B B' : Nat} {A : Option Addr} {xs : List Value}
theorem At.nil (w : World) (B : Nat) (A : Option Addr) : At w B A [] := fun h => absurd rfl h
theorem At.keep (h : At w B A xs) (hk : ∀ p : Addr, p.block < B → w'.cell? p = w.cell? p) : At w' B A xs := fun hn => by
  obtain ⟨b, o, e, hb, hc⟩ := h hn
  exact ⟨b, o, e, hb, fun i x hx => (hk _ hb).trans (hc i x hx)⟩
theorem At.more (h : At w B A xs) (hB : B ≤ B') : At w B' A xs := fun hn => by
  obtain ⟨b, o, e, hb, hc⟩ := h hn
  exact ⟨b, o, e, Nat.lt_of_lt_of_le hb hB, hc⟩
theorem At.below (h : At w B A xs) (hb : Below B w w') : At w' B A xs := h.keep fun _ hp => hb.cell hp
theorem At.drewN (h : At w B A xs) (k : Nat) : At (w.drewN k) B A xs := h
theorem At.drew (h : At w B A xs) : At w.drew B A xs := h
theorem At.alloc (h : At w B A xs) (hB : B ≤ w.heap.size) (o : Obj) : At (w.alloc o) B A xs := h.below ((Below.refl B w).alloc hB o)
theorem At.set (h : At w B A xs) {p : Addr} (hB : B ≤ p.block) (u : Value) : At (w.setCell p u) B A xs := h.below ((Below.refl B w).setCell hB u)
theorem At.grown (h : At w B A xs) {row : Option Nat} (hg : w.grownBy w' row) (hB : B ≤ w.heap.size) (hr : ∀ g, row = some g → B ≤ g) : At w' B A xs :=
  h.below ((Below.refl B w).grown hg hB hr)
theorem At.cut (h : At w B A xs) (k cap : Nat) (hc : xs.length ≤ cap) : At w B (if cap = k then A else A.map (·.add k)) (xs.drop k) := fun hn => by
  have hk : k < xs.length := by
    rcases Nat.lt_or_ge k xs.length with h1 | h1
    · exact h1
    · exact absurd (List.drop_eq_nil_of_le h1) hn
  obtain ⟨b, o, e, hb, hcell⟩ := h (by intro h0; subst h0; simp at hk)
  subst e
  rw [if_neg (by omega)]
  refine ⟨b, o + k, by simp [Addr.add_lit], hb, fun i x hx => ?_⟩
  rw [Nat.add_assoc]
  exact hcell (k + i) x (by rw [← hx, List.getElem?_drop])
theorem At.take (h : At w B A xs) (k : Nat) : At w B A (xs.take k) := fun hn => by
  obtain ⟨b, o, e, hb, hc⟩ := h (by intro h0; subst h0; simp at hn)
  refine ⟨b, o, e, hb, fun i x hx => hc i x ?_⟩
  have hi : i < (xs.take k).length := (List.getElem?_eq_some_iff.1 hx).1
  rw [List.length_take] at hi
  rw [List.getElem?_take_of_lt (by omega)] at hx
  exact hx
theorem At.of_own {base : Nat} {e : TypeId} {size n c : Nat} (h : w.ownsRow base e size (.slice A n c) n xs) : At w w.heap.size A xs := fun hn => by
  have hA : ∃ g, A = some ⟨g, 0, none⟩ := by
    rcases h.2 with ⟨h1, h2⟩ | ⟨g, cap, cur, h1, _⟩
    · subst h2
      exact absurd (List.eq_nil_of_length_eq_zero (by simpa using h.1)) hn
    · injection h1 with h1
      exact ⟨g, h1⟩
  obtain ⟨g, rfl⟩ := hA
  refine ⟨g, 0, rfl, (h.lt g rfl).2, fun i x hx => ?_⟩
  have := h.cells (g := g) rfl i x hx
  rwa [Addr.add_lit] at this
end

section
variable {P : Program} (w : World)

/-- append onto a row of the call's own, the source nil, empty or not. -/
theorem run_append_at (base : Nat) (t ty e : TypeId) (i : TypeInfo) (z : Value) (size bytes : Nat) (ht : P.underlying t = some (.slice e)) (hi : P.info? e = some i) (hz : i.zero = some z)
    (hsize : i.size = size) (hby : i.bytes = bytes) (hzs : z.cells.size = size) (hsz : 0 < size)
    (v : Value) (n : Nat) (xs : List Value) (hown : w.ownsRow base e size v n xs) (B : Nat) (A : Option Addr) (m c : Nat) (news : List Value) (hr : At w B A news) (hm : news.length = m * size)
    (h1 : ∀ u ∈ news, u.oneCell' = true) (h63 : n + m ≤ maxLen) (hbytes : (n + m) * bytes ≤ 140737488355328) (hbase : base ≤ w.heap.size) :
    ∃ v' w', (Builtin.append_ #[t, t] ty #[v, .slice A m c]).run P w = .ok v' w' ∧ w'.ownsRow base e size v' (n + m) (xs ++ news) ∧ w.grownBy w' v.ownBlock ∧
      (v'.ownBlock = v.ownBlock ∨ v'.ownBlock = some w.heap.size) := by
  cases A with
  | some ad =>
    have hcells : ∀ j u, news[j]? = some u → w.cell? (ad.add j) = some u := by
      intro j u hu
      obtain ⟨b, o, e', _, hc⟩ := hr (by intro h0; subst h0; simp at hu)
      obtain rfl := Option.some.inj e'
      rw [Addr.add_lit]
      exact hc j u hu
    obtain ⟨v', w', hrun, g1, g2, _, g3⟩ := run_append_own_at (P := P) w base t ty e i z size bytes ht hi hz hsize hby hzs hsz v n xs hown ad m c news hm hcells h1 h63 hbytes hbase
    exact ⟨v', w', hrun, g1, g2, g3⟩
  | none =>
    have hn : news = [] := by
      rcases hr' : news with _ | ⟨x, l⟩
      · rfl
      · obtain ⟨_, _, e', _⟩ := hr (by rw [hr']; simp)
        cases e'
    subst hn
    obtain rfl : m = 0 := by
      rcases Nat.mul_eq_zero.1 hm.symm with h0 | h0 <;> omega
    refine ⟨v, w, ?_, by simpa using hown, World.grownBy.refl w _, .inl rfl⟩
    rcases hown.2 with ⟨rfl, rfl⟩ | ⟨g, cap, cur, rfl, _, _, hnc, _⟩
    · simp [Builtin.append_, run_underlying ht, sizeOf, typeInfo, hi, Builtin.lenOf, Builtin.firstCells]
    · simp [Builtin.append_, run_underlying ht, sizeOf, typeInfo, hi, Builtin.lenOf, Builtin.firstCells, hnc, storeCells]

theorem wp_append_at {o : Oper} {a : Act} {K : Act → World → Prop} {Q : Exit → Act → World → Prop} (s x : Operand) (t : TypeId)
    (ho : o.op = .call { callee := .builtin .append, args := #[s, x], argTypes := #[t, t] })
    (base : Nat) (e : TypeId) (i : TypeInfo) (z : Value) (size bytes : Nat) (ht : P.underlying t = some (.slice e)) (hi : P.info? e = some i) (hz : i.zero = some z)
    (hsize : i.size = size) (hby : i.bytes = bytes) (hzs : z.cells.size = size) (hsz : 0 < size)
    (v : Value) (n : Nat) (xs : List Value) (hs : a.eval s = v) (hown : w.ownsRow base e size v n xs) (B : Nat) (A : Option Addr) (m c : Nat) (news : List Value) (hx : a.eval x = .slice A m c)
    (hr : At w B A news) (hm : news.length = m * size) (h1 : ∀ u ∈ news, u.oneCell' = true) (h63 : n + m ≤ maxLen) (hbytes : (n + m) * bytes ≤ 140737488355328) (hbase : base ≤ w.heap.size)
    (h : ∀ v' w', w'.ownsRow base e size v' (n + m) (xs ++ news) → w.grownBy w' v.ownBlock → (v'.ownBlock = v.ownBlock ∨ v'.ownBlock = some w.heap.size) → K (a.put o.dst v') w') : o.wp P a w K Q := by
  obtain ⟨v', w', hrun, h2, h3, h4⟩ := run_append_at (P := P) w base t o.type e i z size bytes ht hi hz hsize hby hzs hsz v n xs hown B A m c news hr hm h1 h63 hbytes hbase
  unfold Oper.wp execOp
  simp only [ho, resolve, invoke, builtin, Sem.run_bind, Sem.run_pure, Result.andThen_ok, List.map_toArray, List.map_cons, List.map_nil, hs, hx, hrun]
  exact h v' w' h2 h3 h4

theorem wpList_append_at {ops : Array Oper} {rest : List Oper} {o : Oper} {a : Act} {Q : Exit → Act → World → Prop} (hgd : o.guard = none) (s x : Operand) (t : TypeId)
    (ho : o.op = .call { callee := .builtin .append, args := #[s, x], argTypes := #[t, t] })
    (base : Nat) (e : TypeId) (i : TypeInfo) (z : Value) (size bytes : Nat) (ht : P.underlying t = some (.slice e)) (hi : P.info? e = some i) (hz : i.zero = some z)
    (hsize : i.size = size) (hby : i.bytes = bytes) (hzs : z.cells.size = size) (hsz : 0 < size)
    (v : Value) (n : Nat) (xs : List Value) (hs : a.eval s = v) (hown : w.ownsRow base e size v n xs) (B : Nat) (A : Option Addr) (m c : Nat) (news : List Value) (hx : a.eval x = .slice A m c)
    (hr : At w B A news) (hm : news.length = m * size) (h1 : ∀ u ∈ news, u.oneCell' = true) (h63 : n + m ≤ maxLen) (hbytes : (n + m) * bytes ≤ 140737488355328) (hbase : base ≤ w.heap.size)
    (h : ∀ v' w', w'.ownsRow base e size v' (n + m) (xs ++ news) → w.grownBy w' v.ownBlock → (v'.ownBlock = v.ownBlock ∨ v'.ownBlock = some w.heap.size) → wpList P ops Q rest (a.put o.dst v') w') :
    wpList P ops Q (o :: rest) a w :=
  wpList_plain hgd fun _ hK => wp_append_at w s x t ho base e i z size bytes ht hi hz hsize hby hzs hsz v n xs hs hown B A m c news hx hr hm h1 h63 hbytes hbase fun v' w' h2 h3 h4 => hK _ _ (h v' w' h2 h3 h4)
end

/-- The cells of bytes. -/
def bv (l : List Nat) : List Value := l.map fun x : Nat => .int .u8 (x : Int)
theorem bv_length (l : List Nat) : (bv l).length = l.length := by simp [bv]
theorem bv_append (a b : List Nat) : bv (a ++ b) = bv a ++ bv b := by simp [bv]
theorem bv_one (l : List Nat) : ∀ u ∈ bv l, u.oneCell' = true := by
  intro u hu
  obtain ⟨_, _, rfl⟩ := List.mem_map.1 hu
  rfl
theorem bv_take (l : List Nat) (k : Nat) : bv (l.take k) = (bv l).take k := by simp [bv]
theorem bv_drop (l : List Nat) (k : Nat) : bv (l.drop k) = (bv l).drop k := by simp [bv]
theorem bv_ne {l : List Nat} (h : l ≠ []) : bv l ≠ [] := by
  intro h0
  exact h (by simpa [bv] using h0)
theorem At.byte {w : World} {B : Nat} {A : Option Addr} {l : List Nat} (h : At w B A (bv l)) (hn : l ≠ []) :
    ∃ b o, A = some ⟨b, o, none⟩ ∧ b < B ∧ ∀ i, i < l.length → w.cell? ⟨b, o + i, none⟩ = some (.int .u8 ((l.getD i 0 : Nat) : Int)) := by
  obtain ⟨b, o, e, hb, hc⟩ := h (bv_ne hn)
  refine ⟨b, o, e, hb, fun i hi => hc i _ ?_⟩
  simp [bv, hi]
end Go.Proofs.Ytjcefnlidophoaa
namespace Go.Proofs.Ytjcefnlidophoaa
open Go.RowKit

theorem u8_info : (Try.prog.info? 5).map (fun i => (i.zero, i.size, i.bytes)) = some (some (.int .u8 0), 1, 1) := by kernel_rfl

/-- A slice of bytes of the call's own: it reads as l, and lies from block 'base' on. -/
def Own (w : World) (base : Nat) (v : Value) (l : List Nat) : Prop := w.ownsRow base 5 1 v l.length (bv l)

theorem Own.nil (w : World) (base : Nat) : Own w base (.slice none 0 0) [] := World.ownsRow_nil w base _ 1
theorem Own.drew {w : World} {base : Nat} {v : Value} {l : List Nat} (h : Own w base v l) : Own w.drew base v l := h
theorem Own.drewN {w : World} {base : Nat} {v : Value} {l : List Nat} (h : Own w base v l) (k : Nat) : Own (w.drewN k) base v l := h
theorem Own.alloc {w : World} {base : Nat} {v : Value} {l : List Nat} (h : Own w base v l) (o : Obj) : Own (w.alloc o) base v l := World.ownsRow.alloc h o
theorem Own.kept {w w' : World} {base : Nat} {v : Value} {l : List Nat} (h : Own w base v l) {row : Option Nat} (hg : w.grownBy w' row) (hne : v.ownBlock = none ∨ v.ownBlock ≠ row) : Own w' base v l :=
  World.ownsRow.kept h hg hne
/-- What lies below block B is kept by whatever keeps B's. -/
theorem Own.below {w w' : World} {base B : Nat} {v : Value} {l : List Nat} (h : Own w base v l) (hb : Below B w w') (hB : w.heap.size ≤ B) : Own w' base v l :=
  World.ownsRow.kept (row := none) h ⟨hb.os, hb.tape, hb.output, hb.size, fun k hk _ => hb.block k (by omega)⟩
    (by cases hv : v.ownBlock <;> simp)
theorem Own.mono {w : World} {base base' : Nat} {v : Value} {l : List Nat} (h : Own w base v l) (hb : base' ≤ base) : Own w base' v l := by
  refine ⟨h.1, ?_⟩
  rcases h.2 with h0 | ⟨g, cap, cur, h1, h2, h3⟩
  · exact .inl h0
  · exact .inr ⟨g, cap, cur, h1, by omega, h3⟩
/-- Its form: a slice of as many bytes as the list has, that reads as the list. -/
theorem Own.form {w : World} {base : Nat} {v : Value} {l : List Nat} (h : Own w base v l) : ∃ A c, v = .slice A l.length c ∧ l.length ≤ c ∧ c ≤ maxLen ∧ At w w.heap.size A (bv l) ∧ (A = none → c = 0) ∧ (∀ a, A = some a → base ≤ a.block) := by
  have h' := h
  rcases h.2 with ⟨h1, h2⟩ | ⟨g, cap, cur, h1, h2, h3, h4, h5, _⟩
  · subst h1
    rw [h2]
    have hl : l = [] := List.eq_nil_of_length_eq_zero h2
    subst hl
    exact ⟨none, 0, rfl, by simp, by unfold maxLen; omega, At.nil _ _ _, fun _ => rfl, fun a h => by cases h⟩
  · subst h1
    exact ⟨some ⟨g, 0, none⟩, cap, rfl, h4, h5, At.of_own h', (fun e => by cases e), fun a h => by injection h with h; subst h; exact h2⟩

/-- A block that was just made reads as its cells. -/
theorem At.made (w : World) (arr : Array Value) (t : TypeId) (fr : Nat × Nat := (0, 0)) : At (w.alloc (.cells arr t fr)) (w.heap.size + 1) (some ⟨w.heap.size, 0, none⟩) arr.toList := fun _ =>
  ⟨w.heap.size, 0, rfl, by omega, fun i x hx => by
    have hx' : arr[i]? = some x := by simpa using hx
    have hh := heap_alloc_new w (.cells arr t fr)
    unfold World.cell?
    dsimp only
    rw [hh]
    simpa using hx'⟩

/-- One byte in a block that was just made. -/
theorem At.one (w : World) (z : Int) (t : TypeId) (k : Nat) (h : z = (k : Int)) : At (w.alloc (.cells #[.int .u8 z] t)) (w.heap.size + 1) (some ⟨w.heap.size, 0, none⟩) (bv [k]) := by
  subst h
  exact At.made w #[.int .u8 (k : Int)] t

/-- append onto a slice of bytes of the call's own. -/
theorem wpList_app {w : World} {ops : Array Oper} {rest : List Oper} {o : Oper} {a : Act} {Q : Exit → Act → World → Prop} (hgd : o.guard = none) (s x : Operand)
    (ho : o.op = .call { callee := .builtin .append, args := #[s, x], argTypes := #[27, 27] })
    {base : Nat} {v : Value} {l : List Nat} (hs : a.eval s = v) (hown : Own w base v l) {B : Nat} {A : Option Addr} {m c : Nat} {news : List Nat} (hx : a.eval x = .slice A m c)
    (hr : At w B A (bv news)) (hm : news.length = m) (hn : l.length + m ≤ 8796093022208) (hbase : base ≤ w.heap.size)
    (h : ∀ v' w', Own w' base v' (l ++ news) → Below base w w' → w.grownBy w' v.ownBlock → (v'.ownBlock = v.ownBlock ∨ v'.ownBlock = some w.heap.size) → wpList Try.prog ops Q rest (a.put o.dst v') w') :
    wpList Try.prog ops Q (o :: rest) a w := by
  obtain ⟨i0, hi0, hz0, hz1, hz2⟩ := info_parts u8_info
  subst hm
  refine wpList_append_at w hgd s x 27 ho base 5 i0 _ 1 1 Try.underlying27 hi0 hz0 hz1 hz2 rfl (by omega) v l.length (bv l) hs hown B A news.length c (bv news) hx hr
    (by simp [bv]) (bv_one news) (by unfold maxLen; omega) (by omega) hbase ?_
  intro v' w' h1 h2 h3
  refine h v' w' ?_ ((Below.refl _ _).grown h2 hbase (fun k hk => (World.ownsRow.lt hown k hk).1)) h2 h3
  unfold Own
  rw [List.length_append, bv_append]
  exact h1

set_option maxHeartbeats 400000 in
theorem own_any (A : Option Addr) (n c : Nat) (l : List Nat) (m : Nat) (w : World) (B : Nat) (hl : l.length = n) (ha : At w B A (bv l)) (hn : n + m ≤ 4398046511104) (hB : B ≤ w.heap.size) :
    Calls Try.prog 154 #[.slice A n c, .int .i64 (m : Int)] w fun e w' => ∃ v, e = .returned v ∧ Own w' w.heap.size v l ∧ Below w.heap.size w w' := by
  obtain ⟨i0, hi0, hz0, hz1, hz2⟩ := info_parts u8_info
  subst hl
  go_enter Try.func154, Try.ntmps154
  go_wp2_with (first
    | (at_make
       refine wpList_make_own _ rfl _ _ 27 rfl w.heap.size 5 i0 _ 1 Try.underlying27 hi0 hz0 hz1 .i64 .i64 _ (l.length + m) rfl rfl (by simp) (by rw [hz2]; omega) (by unfold maxLen; omega) (Nat.le_refl _) ?_
       intro w1 hown1 hg1
       have hown1 : Own w1 w.heap.size _ [] := hown1)
    | (at_builtin
       refine wpList_app rfl (.tmp 9) (.tmp 10) rfl rfl hown1 rfl (ha.grown hg1 hB (by simp)) rfl (by simp; omega) hg1.size ?_
       intro v2 w2 hown2 hb2 _ _))
  go_ret
  have hb1 : Below w.heap.size w w1 := (Below.refl _ _).grown hg1 (Nat.le_refl _) (by simp)
  exact ⟨v2, rfl, by simpa using hown2, hb1.trans hb2⟩
end Go.Proofs.Ytjcefnlidophoaa
namespace Go.Proofs.Ytjcefnlidophoaa

/-- The varint of n: at most f bytes ahead of the last one. -/
def vi : Nat → Nat → List Nat
  | 0, n => [n]
  | f + 1, n => if n < 128 then [n] else (n % 128 + 128) :: vi f (n / 128)
def varint (n : Nat) : List Nat := vi 9 n
/-- k bytes with more behind them, and the last one. -/
def vput : Nat → Nat → List Nat
  | 0, n => [n % 256]
  | k + 1, n => (n % 128 + 128) :: vput k (n / 128)
/-- How many bytes have more behind them. -/
def vmore (n : Nat) : Nat := (Lib.bitLen (n ||| 1) - 1) / 7

theorem or_one_div (n : Nat) : (n ||| 1) / 2 = n / 2 := by
  have := Nat.or_div_two (a := n) (b := 1)
  simpa using this
theorem bitLen_or_one (n : Nat) (h0 : n ≠ 0) (h : n < 2 ^ 64) : Lib.bitLen (n ||| 1) = Lib.bitLen n := by
  have h1 : (n ||| 1) / 2 = n / 2 := or_one_div n
  rw [Lib.bitLen_half (n ||| 1) (by intro e; have := @Nat.left_le_or n 1; omega) (by omega), Lib.bitLen_half n h0 h, h1]
theorem bitLen_le (n k : Nat) (h : n < 2 ^ k) : Lib.bitLen n ≤ k := Lib.bitLenAux_le 64 n k h
theorem vmore_small (n : Nat) (h : n < 128) : vmore n = 0 := by
  have h1 : (n ||| 1) / 2 = n / 2 := or_one_div n
  have := bitLen_le (n ||| 1) 7 (by omega)
  unfold vmore
  omega
theorem bitLen_pos (n : Nat) (h : n ≠ 0) (hn : n < 2 ^ 64) : 1 ≤ Lib.bitLen n := by
  rw [Lib.bitLen_half n h hn]
  omega
theorem vmore_step (n : Nat) (h : 128 ≤ n) (hn : n < 2 ^ 64) : vmore n = vmore (n / 128) + 1 := by
  have h1 := Lib.bitLen_shift 7 n h hn
  rw [show (2 : Nat) ^ 7 = 128 from rfl] at h1
  have h2 := bitLen_or_one n (by omega) hn
  have h3 := bitLen_or_one (n / 128) (by omega) (by omega)
  have h4 := bitLen_pos (n / 128) (by omega) (by omega)
  unfold vmore
  omega
theorem vput_vi : ∀ (f n : Nat), n < 2 ^ 64 → n < 128 ^ (f + 1) → vput (vmore n) n = vi f n
  | 0, n, _, h => by
    rw [vmore_small n (by omega)]
    show [n % 256] = [n]
    rw [Nat.mod_eq_of_lt (by omega)]
  | f + 1, n, hn, h => by
    unfold vi
    by_cases hs : n < 128
    · rw [if_pos hs, vmore_small n hs]
      show [n % 256] = [n]
      rw [Nat.mod_eq_of_lt (by omega)]
    · rw [if_neg hs, vmore_step n (by omega) hn]
      have := vput_vi f (n / 128) (by omega) (by rw [Nat.pow_succ] at h; omega)
      show (n % 128 + 128) :: vput (vmore (n / 128)) (n / 128) = _
      rw [this]
theorem vput_varint (n : Nat) (hn : n < 2 ^ 64) : vput (vmore n) n = varint n := vput_vi 9 n hn (by omega)
theorem vmore_le (n : Nat) (hn : n < 2 ^ 64) : vmore n ≤ 9 := by
  have h1 : (n ||| 1) / 2 = n / 2 := or_one_div n
  have := bitLen_le (n ||| 1) 64 (by omega)
  unfold vmore
  omega
theorem vi_bytes : ∀ (f n : Nat), n < 128 ^ (f + 1) → ∀ x ∈ vi f n, x < 256
  | 0, n, h, x, hx => by
    simp [vi] at hx
    omega
  | f + 1, n, h, x, hx => by
    unfold vi at hx
    by_cases hs : n < 128
    · rw [if_pos hs] at hx
      simp at hx
      omega
    · rw [if_neg hs] at hx
      rcases List.mem_cons.1 hx with rfl | hx
      · omega
      · exact vi_bytes f (n / 128) (by rw [Nat.pow_succ] at h; omega) x hx
theorem varint_bytes (n : Nat) (hn : n < 2 ^ 64) : ∀ x ∈ varint n, x < 256 := vi_bytes 9 n (by omega)
theorem vi_length : ∀ (f n : Nat), 1 ≤ (vi f n).length ∧ (vi f n).length ≤ f + 1
  | 0, n => by simp [vi]
  | f + 1, n => by
    unfold vi
    by_cases hs : n < 128
    · rw [if_pos hs]
      simp
    · rw [if_neg hs]
      have := vi_length f (n / 128)
      simp
      omega
theorem varint_length (n : Nat) : 1 ≤ (varint n).length ∧ (varint n).length ≤ 10 := vi_length 9 n
/-- What is got of bytes from their first one on: the number, how many bytes it has, and the error. i bytes are behind; acc is told by them. -/
def gus : Nat → Nat → List Nat → Nat × Nat × Nat
  | _, _, [] => (0, 0, 11)
  | i, acc, x :: r => if (0 < i ∧ x = 0) ∨ (i = 9 ∧ 1 < x) then (0, 0, 10) else if x < 128 then (acc + x % 128 * 128 ^ i, i + 1, 0) else gus (i + 1) (acc + x % 128 * 128 ^ i) r
/-- GetUint's answer at a place that may be. -/
def gu (l : List Nat) (at_ : Nat) : Nat × Nat × Nat := ((gus 0 0 (l.drop at_)).1, if (gus 0 0 (l.drop at_)).2.2 = 0 then at_ + (gus 0 0 (l.drop at_)).2.1 else 0, (gus 0 0 (l.drop at_)).2.2)

theorem gu_err (l : List Nat) (p e : Nat) (he : e ≠ 0) (h : gus 0 0 (l.drop p) = (0, 0, e)) : gu l p = (0, 0, e) := by
  unfold gu
  rw [h]
  simp [he]
theorem gu_ok (l : List Nat) (p n k : Nat) (h : gus 0 0 (l.drop p) = (n, k, 0)) : gu l p = (n, p + k, 0) := by
  unfold gu
  rw [h]
  simp
theorem acc_step (acc k x : Nat) (hacc : acc < 128 ^ k) : acc + x % 128 * 128 ^ k < 128 ^ (k + 1) := by
  have h1 : x % 128 ≤ 127 := by omega
  have h2 := Nat.mul_le_mul_right (128 ^ k) h1
  rw [Nat.pow_succ]
  omega
theorem gus_drop (l : List Nat) (p i acc : Nat) (h : p < l.length) : gus i acc (l.drop p) = if (0 < i ∧ l.getD p 0 = 0) ∨ (i = 9 ∧ 1 < l.getD p 0) then (0, 0, 10) else if l.getD p 0 < 128 then (acc + l.getD p 0 % 128 * 128 ^ i, i + 1, 0) else gus (i + 1) (acc + l.getD p 0 % 128 * 128 ^ i) (l.drop (p + 1)) := by
  rw [List.drop_eq_getElem_cons h]
  have e : l.getD p 0 = l[p] := by simp [h]
  rw [e]
  rfl

theorem gus_bounds : ∀ (r : List Nat) (i acc : Nat), i ≤ 9 → acc < 128 ^ i →
    (gus i acc r).1 < 18446744073709551616 ∧ ((gus i acc r).2.2 ≠ 0 → (gus i acc r).1 = 0 ∧ (gus i acc r).2.1 = 0) ∧ ((gus i acc r).2.2 = 0 → i < (gus i acc r).2.1 ∧ (gus i acc r).2.1 ≤ i + r.length)
  | [], i, acc, _, _ => by simp [gus]
  | x :: r, i, acc, hi, ha => by
    unfold gus
    by_cases hbad : (0 < i ∧ x = 0) ∨ (i = 9 ∧ 1 < x)
    · rw [if_pos hbad]
      simp
    · rw [if_neg hbad]
      by_cases hx : x < 128
      · rw [if_pos hx]
        refine ⟨?_, by simp, by simp⟩
        have hm := acc_step acc i x ha
        by_cases h9 : i = 9
        · subst h9
          have := Nat.mul_le_mul_right (128 ^ 9) (show x % 128 ≤ 1 by omega)
          show acc + x % 128 * 128 ^ 9 < _
          omega
        · have hp : (128 : Nat) ^ (i + 1) ≤ 128 ^ 9 := Nat.pow_le_pow_right (by omega) (by omega)
          show acc + x % 128 * 128 ^ i < _
          omega
      · rw [if_neg hx]
        have h9 : i ≠ 9 := by
          intro h
          apply hbad
          right
          omega
        obtain ⟨h1, h2, h3⟩ := gus_bounds r (i + 1) (acc + x % 128 * 128 ^ i) (by omega) (acc_step acc i x ha)
        refine ⟨h1, h2, fun h => ?_⟩
        have := h3 h
        simp
        omega
theorem gu_bounds (l : List Nat) (p : Nat) (hp : p ≤ l.length) : (gu l p).1 < 18446744073709551616 ∧ ((gu l p).2.2 ≠ 0 → (gu l p).1 = 0 ∧ (gu l p).2.1 = 0) ∧ ((gu l p).2.2 = 0 → p < (gu l p).2.1 ∧ (gu l p).2.1 ≤ l.length) := by
  obtain ⟨h1, h2, h3⟩ := gus_bounds (l.drop p) 0 0 (by omega) (by simp)
  unfold gu
  refine ⟨h1, fun h => ?_, fun h => ?_⟩
  · dsimp only at h ⊢
    rw [if_neg h]
    exact ⟨(h2 h).1, rfl⟩
  · dsimp only at h ⊢
    rw [if_pos h]
    have := h3 h
    rw [List.length_drop] at this
    omega

/-- What is put is got, whatever stands behind it. -/
theorem gus_vi (r : List Nat) : ∀ (f i acc m : Nat), f + i = 9 → (0 < i → 0 < m) → m * 128 ^ i < 18446744073709551616 → gus i acc (vi f m ++ r) = (acc + m * 128 ^ i, i + (vi f m).length, 0)
  | 0, i, acc, m, hf, h0, hm => by
    obtain rfl : i = 9 := by omega
    have : m ≤ 1 := by omega
    have h0' := h0 (by omega)
    show gus 9 acc (m :: r) = _
    unfold gus
    rw [if_neg (by omega), if_pos (by omega), Nat.mod_eq_of_lt (by omega)]
    rfl
  | f + 1, i, acc, m, hf, h0, hm => by
    unfold vi
    by_cases hs : m < 128
    · rw [if_pos hs]
      show gus i acc (m :: r) = _
      unfold gus
      rw [if_neg (by omega), if_pos hs, Nat.mod_eq_of_lt hs]
      rfl
    · rw [if_neg hs]
      show gus i acc ((m % 128 + 128) :: (vi f (m / 128) ++ r)) = _
      unfold gus
      rw [if_neg (by omega), if_neg (by omega)]
      have e : acc + (m % 128 + 128) % 128 * 128 ^ i + m / 128 * 128 ^ (i + 1) = acc + m * 128 ^ i := by
        have h1 : m * 128 ^ i = (m % 128) * 128 ^ i + (m / 128) * (128 ^ i * 128) := by
          have := Nat.div_add_mod m 128
          have e2 : m * 128 ^ i = (128 * (m / 128) + m % 128) * 128 ^ i := by rw [this]
          rw [e2, Nat.add_mul, Nat.add_comm, Nat.mul_assoc, Nat.mul_comm 128 (m / 128 * 128 ^ i), Nat.mul_assoc]
        rw [Nat.pow_succ, Nat.add_mod_right, Nat.mod_mod, h1]
        omega
      have hlt : m / 128 * 128 ^ (i + 1) < 18446744073709551616 := by
        have h2 : m / 128 * 128 ^ (i + 1) ≤ m * 128 ^ i := by
          rw [Nat.pow_succ, Nat.mul_comm (128 ^ i) 128, ← Nat.mul_assoc]
          exact Nat.mul_le_mul_right _ (Nat.div_mul_le_self m 128)
        omega
      rw [gus_vi r f (i + 1) _ (m / 128) (by omega) (by omega) hlt, e]
      simp
      omega
theorem gus_varint (n : Nat) (hn : n < 18446744073709551616) (r : List Nat) : gus 0 0 (varint n ++ r) = (n, (varint n).length, 0) := by
  have := gus_vi r 9 0 0 n (by omega) (by omega) (by omega)
  simpa [varint] using this
/-- A varint that is cut is none. -/
theorem gus_cut : ∀ (f i acc m k : Nat), f + i = 9 → (0 < i → 0 < m) → m * 128 ^ i < 18446744073709551616 → k < (vi f m).length → gus i acc ((vi f m).take k) = (0, 0, 11)
  | _, _, _, _, 0, _, _, _, _ => by simp [gus]
  | 0, i, acc, m, k + 1, _, _, _, hk => by simp [vi] at hk
  | f + 1, i, acc, m, k + 1, hf, h0, hm, hk => by
    unfold vi at hk ⊢
    by_cases hs : m < 128
    · rw [if_pos hs] at hk
      simp at hk
    · rw [if_neg hs] at hk ⊢
      rw [List.take_succ_cons]
      unfold gus
      rw [if_neg (by omega), if_neg (by omega)]
      have hlt : m / 128 * 128 ^ (i + 1) < 18446744073709551616 := by
        have h2 : m / 128 * 128 ^ (i + 1) ≤ m * 128 ^ i := by
          rw [Nat.pow_succ, Nat.mul_comm (128 ^ i) 128, ← Nat.mul_assoc]
          exact Nat.mul_le_mul_right _ (Nat.div_mul_le_self m 128)
        omega
      exact gus_cut f (i + 1) _ (m / 128) k (by omega) (by omega) hlt (by simpa using hk)
theorem gus_short (n k : Nat) (hn : n < 18446744073709551616) (hk : k < (varint n).length) : gus 0 0 ((varint n).take k) = (0, 0, 11) :=
  gus_cut 9 0 0 n k (by omega) (by omega) (by omega) hk
/-- What is got, put again, is the same bytes. -/
theorem gus_back : ∀ (r : List Nat) (f i acc n k : Nat), f + i = 9 → (∀ x ∈ r, x < 256) → gus i acc r = (n, k, 0) → ∃ m, i < k ∧ k ≤ i + r.length ∧ n = acc + m * 128 ^ i ∧ r.take (k - i) = vi f m ∧ (0 < i → 0 < m)
  | [], f, i, acc, n, k, _, _, h => by simp [gus] at h
  | x :: r, f, i, acc, n, k, hf, h8, h => by
    unfold gus at h
    by_cases hbad : (0 < i ∧ x = 0) ∨ (i = 9 ∧ 1 < x)
    · rw [if_pos hbad] at h
      simp at h
    · rw [if_neg hbad] at h
      by_cases hx : x < 128
      · rw [if_pos hx] at h
        simp only [Prod.mk.injEq, and_true] at h
        obtain ⟨rfl, rfl⟩ := h
        refine ⟨x, by omega, by simp, by rw [Nat.mod_eq_of_lt hx], ?_, by omega⟩
        rw [show i + 1 - i = 1 by omega]
        rcases f with _ | f
        · rfl
        · unfold vi
          rw [if_pos hx]
          rfl
      · rw [if_neg hx] at h
        have hi9 : i ≠ 9 := by
          intro h9
          apply hbad
          right
          omega
        obtain ⟨f', rfl⟩ : ∃ f', f = f' + 1 := ⟨f - 1, by omega⟩
        obtain ⟨m, h1, h2, h3, h4, h5⟩ := gus_back r f' (i + 1) _ n k (by omega) (fun y hy => h8 y (List.mem_cons_of_mem _ hy)) h
        have hx2 := h8 x (by simp)
        have hm := h5 (by omega)
        refine ⟨m * 128 + x % 128, by omega, by simp; omega, ?_, ?_, by omega⟩
        · rw [h3, Nat.pow_succ, Nat.add_mul, Nat.mul_comm (128 ^ i) 128, Nat.mul_assoc m]
          omega
        · rw [show k - i = (k - (i + 1)) + 1 by omega, List.take_succ_cons, h4]
          have e : ∀ M, ¬ M < 128 → vi (f' + 1) M = (M % 128 + 128) :: vi f' (M / 128) := fun M hM => by
            show (if M < 128 then [M] else (M % 128 + 128) :: vi f' (M / 128)) = _
            rw [if_neg hM]
          rw [e _ (by omega), show (m * 128 + x % 128) / 128 = m by omega, show (m * 128 + x % 128) % 128 + 128 = x by omega]
theorem gu_back (l : List Nat) (h8 : ∀ x ∈ l, x < 256) (n k : Nat) (h : gus 0 0 l = (n, k, 0)) : 1 ≤ k ∧ k ≤ l.length ∧ l.take k = varint n := by
  obtain ⟨m, h1, h2, h3, h4, _⟩ := gus_back l 9 0 0 n k (by omega) h8 h
  have : n = m := by omega
  subst this
  exact ⟨h1, by omega, by simpa [varint] using h4⟩

theorem vi_len : ∀ (f g n : Nat), n < 128 ^ (f + 1) → n < 128 ^ (g + 1) → (vi f n).length = (vi g n).length
  | 0, g, n, h, _ => by
    rcases g with _ | g
    · rfl
    · unfold vi
      rw [if_pos (by omega)]
  | f + 1, 0, n, _, h => by
    unfold vi
    rw [if_pos (by omega)]
  | f + 1, g + 1, n, h, h' => by
    unfold vi
    by_cases hs : n < 128
    · rw [if_pos hs, if_pos hs]
    · rw [if_neg hs, if_neg hs]
      have := vi_len f g (n / 128) (by rw [Nat.pow_succ] at h; omega) (by rw [Nat.pow_succ] at h'; omega)
      simp [this]
theorem varint_small (n : Nat) (h : n < 128) : varint n = [n] := by
  show (if n < 128 then [n] else _) = _
  rw [if_pos h]
theorem varint_len_step (n : Nat) (h : 128 ≤ n) (hn : n < 18446744073709551616) : (varint n).length = 1 + (varint (n / 128)).length := by
  have e : varint n = (n % 128 + 128) :: vi 8 (n / 128) := by
    show (if n < 128 then [n] else _) = _
    rw [if_neg (by omega)]
  rw [e, List.length_cons, vi_len 8 9 (n / 128) (by omega) (by omega)]
  unfold varint
  omega
theorem vi_mono : ∀ (f a b : Nat), a ≤ b → b < 128 ^ (f + 1) → (vi f a).length ≤ (vi f b).length
  | 0, a, b, _, _ => by simp [vi]
  | f + 1, a, b, h, hb => by
    unfold vi
    by_cases ha : a < 128
    · rw [if_pos ha]
      split <;> simp
    · rw [if_neg ha, if_neg (by omega)]
      have := vi_mono f (a / 128) (b / 128) (Nat.div_le_div_right h) (by rw [Nat.pow_succ] at hb; omega)
      simpa using this
theorem varint_mono (a b : Nat) (h : a ≤ b) (hb : b < 18446744073709551616) : (varint a).length ≤ (varint b).length := vi_mono 9 a b h (by omega)
theorem varint_even (j : Nat) (h : 2 * j + 1 < 18446744073709551616) : (varint (2 * j)).length = (varint (2 * j + 1)).length := by
  by_cases hs : 2 * j < 128
  · rw [varint_small _ hs, varint_small _ (by omega)]
    rfl
  · rw [varint_len_step (2 * j) (by omega) (by omega), varint_len_step (2 * j + 1) (by omega) (by omega), show (2 * j + 1) / 128 = 2 * j / 128 by omega]
theorem varint_inj (a b : Nat) (ha : a < 18446744073709551616) (hb : b < 18446744073709551616) (h : varint a = varint b) : a = b := by
  have h1 := gus_varint a ha []
  have h2 := gus_varint b hb []
  rw [h, h2] at h1
  simp at h1
  exact h1.symm
end Go.Proofs.Ytjcefnlidophoaa
namespace Go.Proofs.Ytjcefnlidophoaa
open Go.RowKit

def crc1 (c : Nat) : Nat := (c / 2) ^^^ (if c % 2 = 1 then 3988292384 else 0)
def crcK : Nat → Nat → Nat
  | 0, c => c
  | k + 1, c => crc1 (crcK k c)
def crcB (c x : Nat) : Nat := crcK 8 (c ^^^ x)
def crcS (c : Nat) (l : List Nat) : Nat := l.foldl crcB c
def crcN (l : List Nat) : Nat := 4294967295 - crcS 4294967295 l

theorem crc1_lt {c : Nat} (h : c < 4294967296) : crc1 c < 4294967296 := by
  unfold crc1
  exact Nat.xor_lt_two_pow (n := 32) (by omega) (by split <;> omega)
theorem crcK_lt (k : Nat) {c : Nat} (h : c < 4294967296) : crcK k c < 4294967296 := by
  induction k with
  | zero => exact h
  | succ k ih => exact crc1_lt ih
theorem crcB_lt {c x : Nat} (h : c < 4294967296) (hx : x < 256) : crcB c x < 4294967296 :=
  crcK_lt 8 (Nat.xor_lt_two_pow (n := 32) h (by omega))
theorem crcS_lt (l : List Nat) (h8 : ∀ x ∈ l, x < 256) : ∀ c, c < 4294967296 → crcS c l < 4294967296 := by
  induction l with
  | nil => intro c h; exact h
  | cons x l ih => intro c h; exact ih (fun y hy => h8 y (List.mem_cons_of_mem _ hy)) _ (crcB_lt h (h8 x (by simp)))


theorem crcS_snoc (c : Nat) (l : List Nat) (k : Nat) (h : k < l.length) : crcS c (l.take (k + 1)) = crcB (crcS c (l.take k)) (l.getD k 0) := by
  unfold crcS
  rw [List.take_succ_eq_append_getElem h, List.foldl_append]
  simp [h]

theorem crc1_walk (r : Nat) (hr : r < 4294967296) :
    bits BinOp.xor IntKind.u32 ((r : Int) / 2) (bits BinOp.and IntKind.u32 3988292384 (-bits BinOp.and IntKind.u32 (r : Int) 1 % 4294967296)) = ((crc1 r : Nat) : Int) := by
  have h1 : bits BinOp.and IntKind.u32 (r : Int) 1 = ((r % 2 : Nat) : Int) := by
    have := u32_and_nat r 1 hr (by omega)
    rw [nat_mask1] at this
    exact this
  rw [h1]
  have h2 : bits BinOp.and IntKind.u32 3988292384 (-((r % 2 : Nat) : Int) % 4294967296) = (((if r % 2 = 1 then 3988292384 else 0 : Nat)) : Int) := by
    rcases Nat.mod_two_eq_zero_or_one r with h | h
    · rw [h]
      exact u32_and_nat 3988292384 0 (by omega) (by omega)
    · rw [h]
      have := u32_and_nat 3988292384 4294967295 (by omega) (by omega)
      rw [show ((3988292384 &&& 4294967295 : Nat)) = 3988292384 from by decide] at this
      exact this
  rw [h2]
  have h3 := u32_xor_nat (r / 2) (if r % 2 = 1 then 3988292384 else 0) (by omega) (by split <;> omega)
  unfold crc1
  rw [← h3]
  simp

theorem not32 (s : Nat) (hs : s < 4294967296) : bits BinOp.xor IntKind.u32 IntKind.u32.max (s : Int) = ((4294967295 - s : Nat) : Int) := by
  have h := u32_xor_nat 4294967295 s (by omega) hs
  have e : (4294967295 ^^^ s : Nat) = 4294967295 - s := by
    have h1 : (BitVec.ofNat 32 4294967295 ^^^ BitVec.ofNat 32 s) = ~~~ (BitVec.ofNat 32 s) := by
      have : BitVec.ofNat 32 4294967295 = BitVec.allOnes 32 := by decide
      rw [this, BitVec.allOnes_xor]
    have h2 := congrArg BitVec.toNat h1
    simp only [BitVec.toNat_xor, BitVec.toNat_not, BitVec.toNat_ofNat] at h2
    rw [Nat.mod_eq_of_lt (by omega), Nat.mod_eq_of_lt (by omega)] at h2
    omega
  rw [e] at h
  exact h

set_option maxHeartbeats 400000 in
theorem crc_any (A : Option Addr) (n c : Nat) (l : List Nat) (w : World) (B : Nat) (hl : l.length = n) (ha : At w B A (bv l)) (hn : n ≤ 1099511627776) (h8 : ∀ x ∈ l, x < 256) :
    Calls Try.prog 153 #[.slice A n c] w fun e w' => e = .returned (.int .u32 (crcN l : Nat)) ∧ w = w' := by
  subst hl
  go_enter Try.func153, Try.ntmps153
  go_wp2
  go_loop [3, 8] (fun x i => ∃ k : Nat, k ≤ l.length ∧ i = .int .i64 k ∧ x = .int .u32 (crcS 4294967295 (l.take k) : Nat)) (fun _ i => l.length - (intOf i).toNat)
  case atStart => exact ⟨0, Nat.zero_le _, rfl, rfl⟩
  case round =>
    obtain ⟨k, hk, rfl, rfl⟩ := hrel
    by_cases hlt : k < l.length
    · obtain ⟨b, o, rfl, hb, hc⟩ := ha.byte (by intro h0; subst h0; simp at hlt)
      have hck := hc k hlt
      have hb1 : l.getD k 0 < 256 := by
        have := h8 (l[k]) (List.getElem_mem hlt)
        simpa [hlt] using this
      have hs : crcS 4294967295 (l.take k) < 4294967296 := crcS_lt _ (fun x hx => h8 x (List.mem_of_mem_take hx)) _ (by omega)
      have H : Hid (crcS 4294967295 (l.take (k + 1)) = crcB (crcS 4294967295 (l.take k)) (l.getD k 0)) := crcS_snoc _ _ _ hlt
      generalize crcS 4294967295 (l.take k) = s at *
      generalize l.getD k 0 = x at *
      clear hc h8 ha
      go_wp2
      go_loop [3, 16] (fun y i => ∃ j : Nat, j ≤ 8 ∧ i = .int .i64 j ∧ y = .int .u32 (crcK j (s ^^^ x) : Nat)) (fun _ i => 8 - (intOf i).toNat)
      case atStart => exact ⟨0, by omega, rfl, congrArg (Value.int .u32) (u32_xor_nat s x hs (by omega))⟩
      case round =>
        obtain ⟨j, hj, rfl, rfl⟩ := hrel
        have hr := crcK_lt j (c := s ^^^ x) (Nat.xor_lt_two_pow (n := 32) hs (by omega))
        have H2 : Hid (crcK (j + 1) (s ^^^ x) = crc1 (crcK j (s ^^^ x))) := rfl
        have H3 : Hid (j = 8 → crcB s x = crcK j (s ^^^ x)) := fun h => by subst h; rfl
        generalize crcK j (s ^^^ x) = r at *
        by_cases hj8 : j < 8
        · go_wp2
          go_round
          case rel =>
            exact ⟨j + 1, by omega, by go_num, congrArg (Value.int .u32) (by rw [crc1_walk r hr, H2.out])⟩
          case measure => simp [intOf]; omega
        · go_wp2
          go_round
          case rel =>
            exact ⟨k + 1, by omega, by go_num, congrArg (Value.int .u32) (by rw [H.out, H3.out (by omega)])⟩
          case measure => simp [intOf]; omega
    · go_wp2
      go_ret
      have hs : crcS 4294967295 (l.take k) < 4294967296 := crcS_lt _ (fun x hx => h8 x (List.mem_of_mem_take hx)) _ (by omega)
      have e : l.take k = l := List.take_of_length_le (by omega)
      rw [e] at hs ⊢
      exact ⟨congrArg Ending.returned (congrArg (Value.int .u32) (not32 _ hs)), rfl⟩
end Go.Proofs.Ytjcefnlidophoaa
namespace Go.Proofs.Ytjcefnlidophoaa
open Go.RowKit

def be4 (s : Nat) : List Nat := [s / 16777216, s / 65536 % 256, s / 256 % 256, s % 256]

theorem At.be4 (w : World) (s : Nat) (t : TypeId) : At (w.alloc (.cells #[.int .u8 ((s : Int) / 16777216), .int .u8 ((s : Int) / 65536 % 256), .int .u8 ((s : Int) / 256 % 256), .int .u8 ((s : Int) % 256)] t)) (w.heap.size + 1) (some ⟨w.heap.size, 0, none⟩) (bv (be4 s)) := by
  have := At.made w #[.int .u8 ((s : Int) / 16777216), .int .u8 ((s : Int) / 65536 % 256), .int .u8 ((s : Int) / 256 % 256), .int .u8 ((s : Int) % 256)] t
  have e : bv (Go.Proofs.Ytjcefnlidophoaa.be4 s) = [.int .u8 ((s : Int) / 16777216), .int .u8 ((s : Int) / 65536 % 256), .int .u8 ((s : Int) / 256 % 256), .int .u8 ((s : Int) % 256)] := by
    simp [bv, Go.Proofs.Ytjcefnlidophoaa.be4]
  rw [e]
  exact this

set_option maxHeartbeats 400000 in
theorem seal_any (A : Option Addr) (n c : Nat) (l : List Nat) (w : World) (B : Nat) (hl : l.length = n) (ha : At w B A (bv l)) (hB : B ≤ w.heap.size) (hn : n ≤ 1099511627776) (h8 : ∀ x ∈ l, x < 256) :
    Calls Try.prog 76 #[.slice A n c] w fun e w' => ∃ v, e = .returned v ∧ Own w' w.heap.size v (l ++ be4 (crcN l)) ∧ Below w.heap.size w w' := by
  have hs : crcN l < 4294967296 := by unfold crcN; omega
  go_enter Try.func76, Try.ntmps76
  go_wp2_with fail
  refine (crc_any A n c l w B hl ha hn h8).mono ?_
  rintro e w1 ⟨rfl, rfl⟩
  generalize hs' : crcN l = s at *
  have HS := Lib.hid hs'
  clear hs'
  go_wp2_with fail
  refine (own_any A n c l 4 w B hl ha (by omega) hB).mono ?_
  rintro e w1 ⟨v1, rfl, hown1, hb1⟩
  go_wp2_with (at_builtin
               refine wpList_app rfl (.tmp 7) (.tmp 19) rfl rfl (hown1.alloc _) rfl (At.be4 w1 s _) rfl (by omega) (by simp; have := hb1.size; omega) ?_
               intro v2 w2 hown2 hb2 _ _)
  go_ret
  exact ⟨v2, rfl, by rw [HS.out]; exact hown2, (hb1.alloc hb1.size _).trans hb2⟩
/-- The number of bytes, the highest first. -/
def beN (l : List Nat) : Nat := l.foldl (fun a x => a * 256 + x) 0
theorem beN_lt (l : List Nat) (h8 : ∀ x ∈ l, x < 256) : beN l < 256 ^ l.length := by
  have all : ∀ (l : List Nat) (a : Nat), (∀ x ∈ l, x < 256) → l.foldl (fun a x => a * 256 + x) a < (a + 1) * 256 ^ l.length := by
    intro l
    induction l with
    | nil => intro a _; simp
    | cons x l ih =>
      intro a h
      have hx := h x (by simp)
      have := ih (a * 256 + x) (fun y hy => h y (List.mem_cons_of_mem _ hy))
      rw [List.foldl_cons, List.length_cons, Nat.pow_succ]
      refine Nat.lt_of_lt_of_le this ?_
      rw [Nat.mul_comm (256 ^ l.length) 256, ← Nat.mul_assoc]
      exact Nat.mul_le_mul_right _ (by omega)
  have := all l 0 h8
  simpa [beN] using this
theorem beN_step (l : List Nat) (k : Nat) (h : 4 ≤ l.length) (hk : k < 4) : beN ((l.drop (l.length - 4)).take (k + 1)) = beN ((l.drop (l.length - 4)).take k) * 256 + l.getD (l.length - 4 + k) 0 := by
  have h1 : k < (l.drop (l.length - 4)).length := by simp; omega
  rw [List.take_succ_eq_append_getElem h1]
  unfold beN
  rw [List.foldl_append]
  simp [show l.length - 4 + k < l.length by omega]
/-- Unseal's answer. -/
def us (l : List Nat) : List Nat × Nat := if l.length < 4 then ([], 11) else if beN (l.drop (l.length - 4)) = crcN (l.take (l.length - 4)) then (l.take (l.length - 4), 0) else ([], 12)
def UsPost (r : List Nat × Nat) (w : World) (e : Ending) (w' : World) : Prop := ∃ v, e = .returned (.tuple #[v, .int .i64 (r.2 : Int)]) ∧ Own w' w.heap.size v r.1 ∧ Below w.heap.size w w'

set_option maxHeartbeats 400000 in
theorem unseal_any (A : Option Addr) (n c : Nat) (l : List Nat) (w : World) (B : Nat) (hl : l.length = n) (ha : At w B A (bv l)) (hB : B ≤ w.heap.size) (hc : n ≤ c) (hn : n ≤ 1099511627776) (h8 : ∀ x ∈ l, x < 256) :
    Calls Try.prog 156 #[.slice A n c] w (UsPost (us l) w) := by
  subst hl
  by_cases h4 : l.length < 4
  · have HF : Hid (us l = ([], 11)) := if_pos h4
    generalize us l = R at *
    go_enter Try.func156, Try.ntmps156
    go_wp2
    go_ret2
    exact ⟨.slice none 0 0, by rw [HF.out]; rfl, by rw [HF.out]; exact Own.nil _ _, Below.refl _ _⟩
  · have h4' : 4 ≤ l.length := by omega
    have HR : Hid (us l = if beN (l.drop (l.length - 4)) = crcN (l.take (l.length - 4)) then (l.take (l.length - 4), 0) else ([], 12)) := if_neg h4
    generalize us l = R at *
    obtain ⟨b, o, rfl, hb, hcell⟩ := ha.byte (by intro h0; subst h0; simp at h4)
    have hat := ha.take (l.length - 4)
    rw [← bv_take] at hat
    go_enter Try.func156, Try.ntmps156
    go_wp2
    go_loop [5, 12] (fun t i => ∃ k : Nat, k ≤ 4 ∧ i = .int .i64 (k : Int) ∧ t = .int .u32 (beN ((l.drop (l.length - 4)).take k) : Nat)) (fun _ i => 4 - (intOf i).toNat)
    case atStart => exact ⟨0, by omega, rfl, by simp [beN]⟩
    case round =>
      obtain ⟨k, hk, rfl, rfl⟩ := hrel
      by_cases hk4 : k < 4
      · have hck := hcell (l.length - 4 + k) (by omega)
        have hx8 : l.getD (l.length - 4 + k) 0 < 256 := by
          have := h8 (l[l.length - 4 + k]) (List.getElem_mem (by omega))
          simpa [show l.length - 4 + k < l.length by omega] using this
        have HS := Lib.hid (beN_step l k (by omega) (by omega))
        have hlt := beN_lt ((l.drop (l.length - 4)).take k) (fun x hx => h8 x (List.mem_of_mem_drop (List.mem_of_mem_take hx)))
        have hlt' : beN ((l.drop (l.length - 4)).take k) < 16777216 := Nat.lt_of_lt_of_le hlt (by
          have : ((l.drop (l.length - 4)).take k).length ≤ 3 := by simp; omega
          exact Nat.pow_le_pow_right (n := 256) (by omega) this)
        clear hlt hcell h8 ha
        generalize l.getD (l.length - 4 + k) 0 = x at *
        generalize beN ((l.drop (l.length - 4)).take k) = t at *
        go_wp2
        go_round
        case rel =>
          refine ⟨k + 1, by omega, by go_num, congrArg (Value.int .u32) ?_⟩
          rw [HS.out]
          have h := u32_or_nat (t * 256) x (by omega) (by omega)
          rw [nat_join 8 (t * 256) x (by omega) (by omega)] at h
          exact h
        case measure => simp [intOf]; omega
      · obtain rfl : k = 4 := by omega
        have e4 : (l.drop (l.length - 4)).take 4 = l.drop (l.length - 4) := List.take_of_length_le (by simp; omega)
        rw [e4]
        clear e4 hcell
        have hsl : (l.take (l.length - 4)).length = l.length - 4 := by simp
        have hp8 : ∀ x ∈ l.take (l.length - 4), x < 256 := fun x hx => h8 x (List.mem_of_mem_take hx)
        generalize l.take (l.length - 4) = pre at *
        generalize beN (l.drop (l.length - 4)) = t at *
        have hpre8 : ∀ x ∈ pre, x < 256 := hp8
        go_wp2_with fail
        refine (crc_any _ (l.length - 4) c pre w B hsl hat (by omega) hpre8).mono ?_
        rintro e w1 ⟨rfl, rfl⟩
        have hs4 : crcN pre < 4294967296 := by unfold crcN; omega
        generalize crcN pre = s at *
        by_cases hts : t = s
        · subst hts
          have HF : Hid (R = (pre, 0)) := by rw [HR.out, if_pos rfl]; rfl
          have Hsl := Lib.hid hsl
          clear HR hsl
          go_wp2_with fail
          refine (own_any _ (l.length - 4) c pre 0 w B Hsl.out hat (by omega) hB).mono ?_
          rintro e w2 ⟨v, rfl, hown, hbw⟩
          go_wp2
          go_ret2
          exact ⟨v, by rw [HF.out]; rfl, by rw [HF.out]; exact hown, hbw⟩
        · have HF : Hid (R = ([], 12)) := by rw [HR.out, if_neg hts]; rfl
          have hne : ((t : Int) == (s : Int)) = false := by simp; omega
          have hne' : ((t : Int) != (s : Int)) = true := by simp; omega
          clear HR hts hsl
          go_wp2
          go_ret2
          exact ⟨.slice none 0 0, by rw [HF.out]; rfl, by rw [HF.out]; exact Own.nil _ _, Below.refl _ _⟩
end Go.Proofs.Ytjcefnlidophoaa
namespace Go.Proofs.Ytjcefnlidophoaa
open Go.RowKit

def strOf (l : List Nat) : ByteArray := ⟨(l.map UInt8.ofNat).toArray⟩
theorem strOf_size (s : List Nat) : (strOf s).size = s.length := by
  show ((s.map UInt8.ofNat).toArray).size = _
  simp
theorem run_strOf (w : World) (B : Nat) (A : Option Addr) (c : Nat) (l : List Nat) (ha : At w B A (bv l)) (h8 : ∀ x ∈ l, x < 256) :
    (convert 27 9 (.slice A l.length c)).run Try.prog w = .ok (.string (strOf l)) w := by
  by_cases hl : l = []
  · subst hl
    rw [List.length_nil, run_convert_bytes_string w 27 9 5 A 0 c Try.underlying27 Try.underlying5 Try.underlying9]
    cases A <;> simp [Conv.bytesToString, loadCells, loadCellsFrom, strOf] <;> rfl
  · obtain ⟨b, o, rfl, hb, hc⟩ := ha.byte hl
    have := run_convert_bytes_back (P := Try.prog) w 27 9 5 ⟨b, o, none⟩ c (l.map UInt8.ofNat) Try.underlying27 Try.underlying5 Try.underlying9 (fun j hj => by
      have hj' : j < l.length := by simpa using hj
      rw [Addr.add_lit, hc j hj']
      have h1 := h8 (l[j]) (List.getElem_mem hj')
      simp [hj', UInt8.toNat_ofNat', Nat.mod_eq_of_lt h1])
    rw [List.length_map] at this
    exact this
theorem strOf_eq (l l' : List Nat) (h : ∀ x ∈ l, x < 256) (h' : ∀ x ∈ l', x < 256) : ((strOf l).toList == (strOf l').toList) = decide (l = l') := by
  rw [ByteArray.toList_eq, ByteArray.toList_eq]
  have e : (strOf l).data.toList = (strOf l').data.toList ↔ l = l' := by
    constructor
    · intro hh
      have h1 : l.map UInt8.ofNat = l'.map UInt8.ofNat := by simpa [strOf] using hh
      have inv : ∀ m : List Nat, (∀ x ∈ m, x < 256) → (m.map UInt8.ofNat).map UInt8.toNat = m := by
        intro m hm
        rw [List.map_map]
        conv => rhs; rw [← List.map_id m]
        apply List.map_congr_left
        intro x hx
        simp [UInt8.toNat_ofNat', Nat.mod_eq_of_lt (hm x hx)]
      rw [← inv l h, ← inv l' h', h1]
    · rintro rfl
      rfl
  by_cases hll : l = l'
  · rw [decide_eq_true hll, beq_iff_eq.2 (e.2 hll)]
  · rw [decide_eq_false hll, beq_eq_false_iff_ne.2 (fun hh => hll (e.1 hh))]

set_option maxHeartbeats 400000 in
theorem same_any (A A' : Option Addr) (n n' c c' : Nat) (l l' : List Nat) (r : Bool) (w : World) (B : Nat) (hl : l.length = n) (hl' : l'.length = n') (ha : At w B A (bv l)) (ha' : At w B A' (bv l')) (h8 : ∀ x ∈ l, x < 256) (h8' : ∀ x ∈ l', x < 256) (hr : decide (l = l') = r) :
    Calls Try.prog 14 #[.slice A n c, .slice A' n' c'] w fun e w' => e = .returned (.bool r) ∧ w = w' := by
  subst hl
  subst hl'
  have e1 := run_strOf w B A c l ha h8
  have e2 := run_strOf w B A' c' l' ha' h8'
  have e3 := strOf_eq l l' h8 h8'
  rw [hr] at e3
  generalize strOf l = s at *
  generalize strOf l' = s' at *
  go_enter Try.func14, Try.ntmps14
  go_wp2
  go_ret
  exact ⟨rfl, rfl⟩

set_option maxHeartbeats 400000 in
theorem copy_any (A : Option Addr) (n c : Nat) (l : List Nat) (w : World) (B : Nat) (hl : l.length = n) (ha : At w B A (bv l)) (hn : n ≤ 1099511627776) :
    Calls Try.prog 24 #[.slice A n c] w fun e w' => ∃ v, e = .returned v ∧ Own w' w.heap.size v l ∧ Below w.heap.size w w' := by
  go_enter Try.func24, Try.ntmps24
  go_wp2_with (at_builtin
               refine wpList_app rfl (.tmp 4) (.tmp 5) rfl rfl (Own.nil w w.heap.size) rfl ha hl (by simp; omega) (Nat.le_refl _) ?_
               intro v2 w2 hown2 hb2 _ _)
  go_ret
  exact ⟨v2, rfl, hown2, hb2⟩

end Go.Proofs.Ytjcefnlidophoaa
namespace Go.Proofs.Ytjcefnlidophoaa

theorem xor_parity (a b : Nat) : (a ^^^ b) % 2 = (a % 2 + b % 2) % 2 := by
  have h := Nat.xor_mod_two_pow (a := a) (b := b) (n := 1)
  rw [Nat.pow_one] at h
  rw [h]
  rcases Nat.mod_two_eq_zero_or_one a with ha | ha <;> rcases Nat.mod_two_eq_zero_or_one b with hb | hb <;> rw [ha, hb] <;> rfl
theorem crc1_xor (a b : Nat) : crc1 (a ^^^ b) = crc1 a ^^^ crc1 b := by
  unfold crc1
  have hp := xor_parity a b
  rw [Nat.xor_div_two]
  generalize a / 2 = x
  generalize b / 2 = y
  generalize 3988292384 = p
  rcases Nat.mod_two_eq_zero_or_one a with ha | ha <;> rcases Nat.mod_two_eq_zero_or_one b with hb | hb <;> rw [ha, hb] at hp
  · rw [if_neg (by omega), if_neg (by omega), if_neg (by omega)]
    simp
  · rw [if_pos (by omega), if_neg (by omega), if_pos (by omega), Nat.xor_zero, Nat.xor_assoc]
  · rw [if_pos (by omega), if_pos (by omega), if_neg (by omega), Nat.xor_zero, Nat.xor_assoc, Nat.xor_assoc, Nat.xor_comm y p]
  · rw [if_neg (by omega), if_pos (by omega), if_pos (by omega), Nat.xor_zero]
    rw [show x ^^^ p ^^^ (y ^^^ p) = x ^^^ y ^^^ (p ^^^ p) by ac_rfl, Nat.xor_self, Nat.xor_zero]
theorem crcK_xor (k a b : Nat) : crcK k (a ^^^ b) = crcK k a ^^^ crcK k b := by
  induction k with
  | zero => rfl
  | succ k ih =>
    show crc1 (crcK k (a ^^^ b)) = crc1 (crcK k a) ^^^ crc1 (crcK k b)
    rw [ih, crc1_xor]
theorem crcK_add (j k c : Nat) : crcK (j + k) c = crcK j (crcK k c) := by
  induction j with
  | zero => rw [Nat.zero_add]; rfl
  | succ j ih =>
    rw [show j + 1 + k = (j + k) + 1 by omega]
    show crc1 (crcK (j + k) c) = crc1 (crcK j (crcK k c))
    rw [ih]
theorem crcB_xor (c d x y : Nat) : crcB (c ^^^ d) (x ^^^ y) = crcB c x ^^^ crcB d y := by
  unfold crcB
  rw [show c ^^^ d ^^^ (x ^^^ y) = (c ^^^ x) ^^^ (d ^^^ y) by ac_rfl, crcK_xor]
/-- Two lists of one length, held against each other bit by bit. -/
def lxor : List Nat → List Nat → List Nat
  | x :: a, y :: b => (x ^^^ y) :: lxor a b
  | _, _ => []
theorem crcS_xor : ∀ (a b : List Nat) (c d : Nat), a.length = b.length → crcS (c ^^^ d) (lxor a b) = crcS c a ^^^ crcS d b
  | [], [], c, d, _ => rfl
  | [], _ :: _, _, _, h => by simp at h
  | _ :: _, [], _, _, h => by simp at h
  | x :: a, y :: b, c, d, h => by
    show crcS (crcB (c ^^^ d) (x ^^^ y)) (lxor a b) = crcS (crcB c x) a ^^^ crcS (crcB d y) b
    rw [crcB_xor]
    exact crcS_xor a b _ _ (by simpa using h)
theorem lxor_length : ∀ (a b : List Nat), a.length = b.length → (lxor a b).length = a.length
  | [], [], _ => rfl
  | [], _ :: _, h => by simp at h
  | _ :: _, [], h => by simp at h
  | x :: a, y :: b, h => by
    show (lxor a b).length + 1 = a.length + 1
    rw [lxor_length a b (by simpa using h)]
theorem not32' (s : Nat) (hs : s < 4294967296) : 4294967295 - s = 4294967295 ^^^ s := by
  have h1 : (BitVec.ofNat 32 4294967295 ^^^ BitVec.ofNat 32 s) = ~~~ (BitVec.ofNat 32 s) := by
    have : BitVec.ofNat 32 4294967295 = BitVec.allOnes 32 := by decide
    rw [this, BitVec.allOnes_xor]
  have h2 := congrArg BitVec.toNat h1
  simp only [BitVec.toNat_xor, BitVec.toNat_not, BitVec.toNat_ofNat] at h2
  rw [Nat.mod_eq_of_lt (by omega), Nat.mod_eq_of_lt (by omega)] at h2
  omega
theorem crcN_eq (l : List Nat) (h8 : ∀ x ∈ l, x < 256) : crcN l = 4294967295 ^^^ crcS 4294967295 l := by
  unfold crcN
  exact not32' _ (crcS_lt l h8 _ (by omega))
theorem lxor_bytes : ∀ (a b : List Nat), (∀ x ∈ a, x < 256) → (∀ x ∈ b, x < 256) → ∀ x ∈ lxor a b, x < 256
  | [], [], _, _, x, hx => by simp [lxor] at hx
  | [], _ :: _, _, _, x, hx => by simp [lxor] at hx
  | _ :: _, [], _, _, x, hx => by simp [lxor] at hx
  | y :: a, z :: b, ha, hb, x, hx => by
    rcases List.mem_cons.1 (show x ∈ (y ^^^ z) :: lxor a b from hx) with h | h
    · rw [h]
      exact Nat.xor_lt_two_pow (n := 8) (ha y (by simp)) (hb z (by simp))
    · exact lxor_bytes a b (fun u hu => ha u (List.mem_cons_of_mem _ hu)) (fun u hu => hb u (List.mem_cons_of_mem _ hu)) x h
/-- Three lists of one length, held against each other: so are their sums. -/
theorem crcN_three (a b c : List Nat) (ha : ∀ x ∈ a, x < 256) (hb : ∀ x ∈ b, x < 256) (hc : ∀ x ∈ c, x < 256) (h1 : a.length = b.length) (h2 : a.length = c.length) :
    crcN (lxor (lxor a b) c) = crcN a ^^^ crcN b ^^^ crcN c := by
  rw [crcN_eq _ (lxor_bytes _ _ (lxor_bytes _ _ ha hb) hc), crcN_eq a ha, crcN_eq b hb, crcN_eq c hc]
  have e1 := crcS_xor (lxor a b) c (4294967295 ^^^ 4294967295) 4294967295 (by rw [lxor_length a b h1]; exact h2)
  rw [crcS_xor a b _ _ h1, Nat.xor_self, Nat.zero_xor] at e1
  rw [e1]
  generalize crcS 4294967295 a = x
  generalize crcS 4294967295 b = y
  generalize crcS 4294967295 c = z
  generalize 4294967295 = f
  rw [show f ^^^ x ^^^ (f ^^^ y) ^^^ (f ^^^ z) = (f ^^^ f) ^^^ (f ^^^ (x ^^^ y ^^^ z)) by ac_rfl, Nat.xor_self, Nat.zero_xor]

theorem crc1_double (y : Nat) : crc1 (2 * y) = y := by
  unfold crc1
  rw [if_neg (by omega), Nat.xor_zero]
  omega
theorem crcK_shift (j x : Nat) : crcK j (x * 2 ^ j) = x := by
  induction j generalizing x with
  | zero => simp [crcK]
  | succ j ih =>
    show crc1 (crcK j (x * 2 ^ (j + 1))) = x
    rw [show x * 2 ^ (j + 1) = 2 * x * 2 ^ j by rw [Nat.pow_succ, Nat.mul_comm (2 ^ j) 2, ← Nat.mul_assoc, Nat.mul_comm x 2], ih, crc1_double]
theorem xor_eq_zero (a b : Nat) (h : a ^^^ b = 0) : a = b := by
  have h2 : a ^^^ b ^^^ b = 0 ^^^ b := by rw [h]
  rw [Nat.xor_assoc, Nat.xor_self, Nat.xor_zero, Nat.zero_xor] at h2
  exact h2
theorem crc1_zero (c : Nat) (hc : c < 4294967296) (h : crc1 c = 0) : c = 0 := by
  unfold crc1 at h
  have := xor_eq_zero _ _ h
  split at this <;> omega
theorem crcK_zero (k c : Nat) (hc : c < 4294967296) (h : crcK k c = 0) : c = 0 := by
  induction k with
  | zero => exact h
  | succ k ih => exact ih (crc1_zero _ (crcK_lt k hc) h)
theorem crcB_zero (c : Nat) : crcB c 0 = crcK 8 c := by
  unfold crcB
  rw [Nat.xor_zero]
theorem crcS_zeros (c : Nat) : ∀ (n : Nat), crcS c (List.replicate n 0) = crcK (8 * n) c
  | 0 => rfl
  | n + 1 => by
    have e : List.replicate (n + 1) 0 = List.replicate n 0 ++ [0] := List.replicate_succ'
    rw [e]
    unfold crcS
    rw [List.foldl_append]
    show crcB (crcS c (List.replicate n 0)) 0 = _
    rw [crcS_zeros c n, crcB_zero, ← crcK_add]
    congr 1
    omega
theorem crcS_append (c : Nat) (a b : List Nat) : crcS c (a ++ b) = crcS (crcS c a) b := by
  unfold crcS
  rw [List.foldl_append]
theorem crcK_zero_at (k : Nat) : crcK k 0 = 0 := by
  have := crcK_shift k 0
  simpa using this
theorem crcS_burst : ∀ (t : List Nat) (k N : Nat), k + t.length ≤ 4 → N < 256 ^ k → (∀ x ∈ t, x < 256) →
    ∃ M, crcS (crcK (8 * k) N) t = crcK (8 * (k + t.length)) M ∧ M < 256 ^ (k + t.length) ∧ ((N ≠ 0 ∨ ∃ x ∈ t, x ≠ 0) → M ≠ 0)
  | [], k, N, _, hN, _ => ⟨N, rfl, hN, fun h => h.elim id (fun ⟨x, hx, _⟩ => by simp at hx)⟩
  | x :: t, k, N, hk, hN, h8 => by
    have hx := h8 x (by simp)
    have hp : (256 : Nat) ^ k = 2 ^ (8 * k) := by rw [Nat.pow_mul]
    have hj := nat_join (8 * k) (x * 2 ^ (8 * k)) N (Nat.mul_mod_left _ _) (by rw [← hp]; exact hN)
    have hxor : N ^^^ x * 2 ^ (8 * k) = N + x * 256 ^ k := by
      have h1 : N &&& x * 2 ^ (8 * k) = 0 := by
        apply Nat.eq_of_testBit_eq
        intro i
        rw [Nat.testBit_and, Nat.zero_testBit]
        by_cases hi : i < 8 * k
        · have : (x * 2 ^ (8 * k)).testBit i = false := by
            rw [Nat.testBit_mul_two_pow]
            simp
            omega
          rw [this, Bool.and_false]
        · have : N.testBit i = false := Nat.testBit_lt_two_pow (Nat.lt_of_lt_of_le hN (by rw [hp]; exact Nat.pow_le_pow_right (by omega) (by omega)))
          rw [this, Bool.false_and]
      have h2 : N ^^^ x * 2 ^ (8 * k) = N ||| x * 2 ^ (8 * k) := by
        apply Nat.eq_of_testBit_eq
        intro i
        have h3 := congrArg (fun z => Nat.testBit z i) h1
        simp only [Nat.testBit_and, Nat.zero_testBit] at h3
        rw [Nat.testBit_xor, Nat.testBit_or]
        cases ha : N.testBit i <;> cases hb : (x * 2 ^ (8 * k)).testBit i <;> simp [ha, hb] at h3 ⊢
      rw [h2, Nat.or_comm, hj, hp, Nat.add_comm]
    have hM : N + x * 256 ^ k < 256 ^ (k + 1) := by
      have := Nat.mul_le_mul_right (256 ^ k) (show x ≤ 255 by omega)
      rw [Nat.pow_succ]
      omega
    have hstep : crcB (crcK (8 * k) N) x = crcK (8 * (k + 1)) (N + x * 256 ^ k) := by
      unfold crcB
      have e : crcK (8 * k) N ^^^ x = crcK (8 * k) (N ^^^ x * 2 ^ (8 * k)) := by rw [crcK_xor, crcK_shift]
      rw [e, hxor, ← crcK_add]
      congr 1
      omega
    simp only [List.length_cons] at hk
    obtain ⟨M, h1, h2, h3⟩ := crcS_burst t (k + 1) (N + x * 256 ^ k) (by omega) hM (fun y hy => h8 y (List.mem_cons_of_mem _ hy))
    refine ⟨M, ?_, ?_, fun h => h3 ?_⟩
    · show crcS (crcB (crcK (8 * k) N) x) t = _
      rw [hstep, h1, List.length_cons]
      congr 1
      omega
    · rw [List.length_cons, show k + (t.length + 1) = k + 1 + t.length by omega]
      exact h2
    · rcases h with h | ⟨y, hy, hy0⟩
      · left
        omega
      · rcases List.mem_cons.1 hy with rfl | hy
        · left
          have := Nat.mul_le_mul_right (256 ^ k) (show 1 ≤ y by omega)
          have := Nat.pow_pos (n := k) (show 0 < 256 by omega)
          omega
        · exact .inr ⟨y, hy, hy0⟩
/-- A change of one to four bytes next to each other, somewhere among others, is seen by the sum. -/
theorem crcN_burst (a b : List Nat) (p q : Nat) (t : List Nat) (ha : ∀ x ∈ a, x < 256) (hb : ∀ x ∈ b, x < 256) (hl : a.length = b.length) (ht : t.length ≤ 4) (h8 : ∀ x ∈ t, x < 256) (h0 : ∃ x ∈ t, x ≠ 0)
    (hd : lxor a b = List.replicate p 0 ++ t ++ List.replicate q 0) : crcN a ≠ crcN b := by
  intro he
  rw [crcN_eq a ha, crcN_eq b hb] at he
  have he' : crcS 4294967295 a = crcS 4294967295 b := by
    have h2 : 4294967295 ^^^ (4294967295 ^^^ crcS 4294967295 a) = 4294967295 ^^^ (4294967295 ^^^ crcS 4294967295 b) := by rw [he]
    rw [← Nat.xor_assoc, ← Nat.xor_assoc, Nat.xor_self, Nat.zero_xor, Nat.zero_xor] at h2
    exact h2
  have h3 := crcS_xor a b 4294967295 4294967295 hl
  rw [he', Nat.xor_self, Nat.xor_self, hd, crcS_append, crcS_append, crcS_zeros, crcS_zeros, crcK_zero_at] at h3
  obtain ⟨M, h4, h5, h6⟩ := crcS_burst t 0 0 (by omega) (by simp) h8
  have h7 : crcS 0 t = crcK (8 * (0 + t.length)) M := h4
  rw [h7, ← crcK_add] at h3
  have hM : M < 4294967296 := Nat.lt_of_lt_of_le h5 (by
    have : (256 : Nat) ^ (0 + t.length) ≤ 256 ^ 4 := Nat.pow_le_pow_right (by omega) (by omega)
    omega)
  exact h6 (.inr h0) (crcK_zero _ M hM h3)

theorem beN_be4 (s : Nat) (hs : s < 4294967296) : beN (be4 s) = s := by
  simp only [beN, be4, List.foldl_cons, List.foldl_nil]
  omega
theorem be4_length (s : Nat) : (be4 s).length = 4 := rfl
/-- What was sealed is unsealed. -/
theorem us_seal (l : List Nat) : us (l ++ be4 (crcN l)) = (l, 0) := by
  have hs : crcN l < 4294967296 := by unfold crcN; omega
  unfold us
  have e : (l ++ be4 (crcN l)).length - 4 = l.length := by simp [be4_length]
  rw [if_neg (by simp [be4_length]), e, List.drop_left, List.take_left, beN_be4 _ hs, if_pos rfl]
theorem lxor_self : ∀ (l : List Nat), lxor l l = List.replicate l.length 0
  | [] => rfl
  | x :: l => by
    show (x ^^^ x) :: lxor l l = _
    rw [Nat.xor_self, lxor_self l]
    rfl
theorem lxor_set : ∀ (l : List Nat) (j x : Nat), j < l.length → lxor l (l.set j x) = List.replicate j 0 ++ [l.getD j 0 ^^^ x] ++ List.replicate (l.length - j - 1) 0
  | [], j, x, h => by simp at h
  | y :: l, 0, x, _ => by
    show (y ^^^ x) :: lxor l l = _
    rw [lxor_self]
    simp
  | y :: l, j + 1, x, h => by
    show (y ^^^ y) :: lxor l (l.set j x) = _
    rw [Nat.xor_self, lxor_set l j x (by simpa using h), List.replicate_succ]
    simp
end Go.Proofs.Ytjcefnlidophoaa
