/- Words for boxes in memory: each list of numbers in a block of its own. -/
import Derived.Test.YtfncmkmhdddmiaaBxm
import Derived.Test.YtfncmkmhdddmiaaIw
set_option linter.unusedVariables false
set_option linter.unusedSimpArgs false
namespace Go.Proofs.Ytfncmkmhdddmiaa
open Go.RowKit

theorem box_info : (Try.prog.info? 40).map (fun i => (i.zero, i.size, i.bytes)) = some (some (.agg #[.string ByteArray.empty, .slice none 0 0]), 2, 40) := by kernel_rfl
theorem own_take {w : World} {base : Nat} {e : TypeId} {size n c m : Nat} {A : Option Addr} {xs : List Value} (h : w.ownsRow base e size (.slice A n c) n xs) (hm : m ≤ n) : w.ownsRow base e size (.slice A m c) m (xs.take (m * size)) := by
  refine ⟨by rw [List.length_take, h.1]; exact Nat.min_eq_left (Nat.mul_le_mul_right _ hm), ?_⟩
  rcases h.2 with ⟨h1, h2⟩ | ⟨g, cap, cur, h1, h2, h3, h4, h5, h6, h7⟩
  · injection h1 with e1 e2 e3
    subst e1 e2 e3
    obtain rfl : m = 0 := by omega
    exact .inl ⟨rfl, rfl⟩
  · injection h1 with e1 _ e3
    subst e1 e3
    refine .inr ⟨g, _, cur, rfl, h2, h3, by omega, h5, h6, ?_⟩
    rw [← h7, List.take_take, Nat.min_eq_left (Nat.mul_le_mul_right _ hm)]
/-- A slice of numbers in blocks of which ok speaks. -/
def Fli (w : World) (ok : Nat → Prop) (u : Value) (L : List Int) : Prop :=
  ∃ A n c, u = .slice A n c ∧ n ≤ c ∧ n ≤ maxLen ∧ L.length = n ∧ (0 < n → ∃ g off, A = some ⟨g, off, none⟩ ∧ ok g ∧ ∀ j i, L[j]? = some i → w.cell? ⟨g, off + j, none⟩ = some (.int .i64 i))
/-- A slice of boxes. -/
def BxsP (w : World) (ok : Nat → Prop) (A : Option Addr) (n : Nat) (X : List Bx) : Prop :=
  X.length = n ∧ (0 < n → ∃ g off, A = some ⟨g, off, none⟩ ∧ ok g ∧ ∀ j a, X[j]? = some a → w.cell? ⟨g, off + j * 2, none⟩ = some (.string a.1) ∧ ∃ u, w.cell? ⟨g, off + j * 2 + 1, none⟩ = some u ∧ Fli w ok u a.2)
abbrev Bxs (w : World) (B : Nat) (A : Option Addr) (n : Nat) (X : List Bx) : Prop := BxsP w (· < B) A n X
/-- The names are short. -/
def BSmall (X : List Bx) : Prop := ∀ a ∈ X, a.1.size ≤ maxLen
section
variable {w w' : World} {ok ok' : Nat → Prop} {u : Value} {L : List Int} {A : Option Addr} {n B B' : Nat} {X : List Bx}
theorem Fli.keep (h : Fli w ok u L) (hk : ∀ p : Addr, ok p.block → w'.cell? p = w.cell? p) : Fli w' ok u L := by
  obtain ⟨A, n, c, e, h1, h2, h3, h4⟩ := h
  refine ⟨A, n, c, e, h1, h2, h3, fun hn => ?_⟩
  obtain ⟨g, off, e, hb, hc⟩ := h4 hn
  exact ⟨g, off, e, hb, fun j s hs => (hk ⟨g, off + j, none⟩ hb).trans (hc j s hs)⟩
theorem Fli.more (h : Fli w ok u L) (hk : ∀ g, ok g → ok' g) : Fli w ok' u L := by
  obtain ⟨A, n, c, e, h1, h2, h3, h4⟩ := h
  refine ⟨A, n, c, e, h1, h2, h3, fun hn => ?_⟩
  obtain ⟨g, off, e, hb, hc⟩ := h4 hn
  exact ⟨g, off, e, hk g hb, hc⟩
theorem Fli.ints {c : Nat} (h : Fli w (· < B) (.slice A n c) L) : Ints w B A n L := by
  obtain ⟨A', n', c', e, h1, h2, h3, h4⟩ := h
  injection e with e1 e2 e3
  subst e1 e2 e3
  exact ⟨h3, h4⟩
theorem BxsP.keep (h : BxsP w ok A n X) (hk : ∀ p : Addr, ok p.block → w'.cell? p = w.cell? p) : BxsP w' ok A n X :=
  ⟨h.1, fun hn => by
    obtain ⟨g, off, e, hb, hc⟩ := h.2 hn
    refine ⟨g, off, e, hb, fun j a ha => ?_⟩
    obtain ⟨h1, u, h2, h3⟩ := hc j a ha
    exact ⟨(hk ⟨g, off + j * 2, none⟩ hb).trans h1, u, (hk ⟨g, off + j * 2 + 1, none⟩ hb).trans h2, h3.keep hk⟩⟩
theorem BxsP.more (h : BxsP w ok A n X) (hk : ∀ g, ok g → ok' g) : BxsP w ok' A n X :=
  ⟨h.1, fun hn => by
    obtain ⟨g, off, e, hb, hc⟩ := h.2 hn
    refine ⟨g, off, e, hk g hb, fun j a ha => ?_⟩
    obtain ⟨h1, u, h2, h3⟩ := hc j a ha
    exact ⟨h1, u, h2, h3.more hk⟩⟩
theorem BxsP.below (h : Bxs w B A n X) (hb : Below B w w') : Bxs w' B A n X := h.keep fun _ hp => hb.cell hp
theorem BxsP.drewN (h : BxsP w ok A n X) (k : Nat) : BxsP (w.drewN k) ok A n X := h
theorem BxsP.up (h : Bxs w B A n X) (hB : B ≤ B') : Bxs w B' A n X := h.more fun _ hg => Nat.lt_of_lt_of_le hg hB
theorem BxsP.on (h : Bxs w w.heap.size A n X) (hb : Below w.heap.size w w') : Bxs w' w'.heap.size A n X := (h.below hb).up hb.size
theorem BxsP.at' {j : Nat} {a : Bx} (h : BxsP w ok A n X) (ha : X[j]? = some a) :
    ∃ g off A' n' c', A = some ⟨g, off, none⟩ ∧ ok g ∧ w.cell? ⟨g, off + j * 2, none⟩ = some (.string a.1) ∧ w.cell? ⟨g, off + j * 2 + 1, none⟩ = some (.slice A' n' c') ∧ n' ≤ c' ∧ n' ≤ maxLen ∧ Fli w ok (.slice A' n' c') a.2 := by
  have hj := (List.getElem?_eq_some_iff.1 ha).1
  obtain ⟨g, off, e, hb, hc⟩ := h.2 (by have := h.1; omega)
  obtain ⟨h1, u, h2, h3⟩ := hc j a ha
  obtain ⟨A', n', c', rfl, l1, l2, l3⟩ := h3
  exact ⟨g, off, A', n', c', e, hb, h1, h2, l1, l2, A', n', c', rfl, l1, l2, l3⟩
theorem Fli.of_own {base m : Nat} {v : Value} (h : w.ownsRow base 3 1 v m (L.map (Value.int .i64))) : Fli w (fun b => base ≤ b ∧ b < w.heap.size ∧ v.ownBlock = some b) v L := by
  have h1 := h.1
  rw [List.length_map, Nat.mul_one] at h1
  rcases h.2 with ⟨rfl, rfl⟩ | ⟨g, cap, cur, rfl, hg, hb, hn, hc, _⟩
  · exact ⟨none, 0, 0, rfl, Nat.le_refl _, Nat.zero_le _, h1, fun hn => absurd hn (by omega)⟩
  · refine ⟨_, _, _, rfl, hn, Nat.le_trans hn hc, h1, fun h0 => ⟨g, 0, rfl, ⟨hg, (h.lt g rfl).2, rfl⟩, fun j s hs => ?_⟩⟩
    have hj : j < m := by have := (List.getElem?_eq_some_iff.1 hs).1; omega
    rw [Nat.zero_add, h.cellAt j (by omega), List.getElem?_map, hs]; rfl
end

/-- A box and where its numbers are. -/
abbrev BxV := ByteArray × List Int × Value
def bxV (Y : List BxV) : List Bx := Y.map fun y => (y.1, y.2.1)
/-- The cells of boxes. -/
def wcells (Y : List BxV) : List Value := Y.flatMap fun y => [.string y.1, y.2.2]
theorem wcells_nil : wcells [] = [] := rfl
theorem wcells_cons (y : BxV) (Y : List BxV) : wcells (y :: Y) = [.string y.1, y.2.2] ++ wcells Y := by simp [wcells]
theorem wcells_app (X Y : List BxV) : wcells (X ++ Y) = wcells X ++ wcells Y := by simp [wcells]
theorem wcells_len (Y : List BxV) : (wcells Y).length = Y.length * 2 := by
  induction Y with
  | nil => rfl
  | cons a X ih => rw [wcells_cons, List.length_append, ih]; simp; omega
theorem wcells_at : ∀ {X : List BxV} {j : Nat} {a : BxV}, X[j]? = some a → (wcells X)[j * 2]? = some (.string a.1) ∧ (wcells X)[j * 2 + 1]? = some a.2.2
  | [], j, a, h => by simp at h
  | b :: X, 0, a, h => by simp at h; subst h; rw [wcells_cons]; simp
  | b :: X, j + 1, a, h => by
    have h' : X[j]? = some a := by simpa using h
    obtain ⟨h1, h2⟩ := wcells_at h'
    rw [wcells_cons]
    refine ⟨?_, ?_⟩
    · rw [List.getElem?_append_right (by simp; omega), show (j + 1) * 2 - [Value.string b.1, b.2.2].length = j * 2 by simp; omega]; exact h1
    · rw [List.getElem?_append_right (by simp; omega), show (j + 1) * 2 + 1 - [Value.string b.1, b.2.2].length = j * 2 + 1 by simp; omega]; exact h2
theorem wcells_set1 : ∀ {X : List BxV} {k : Nat} {a : BxV} (L : List Int) (u : Value), X[k]? = some a → (wcells X).set (k * 2 + 1) u = wcells (X.set k (a.1, L, u))
  | [], k, a, L, v, h => by simp at h
  | b :: X, 0, a, L, v, h => by simp at h; subst h; rw [wcells_cons, List.set_cons_zero, wcells_cons]; rfl
  | b :: X, k + 1, a, L, v, h => by
    have h' : X[k]? = some a := by simpa using h
    rw [wcells_cons, List.set_cons_succ, wcells_cons, ← wcells_set1 L v h', show (k + 1) * 2 + 1 = k * 2 + 1 + 1 + 1 by omega]
    rfl
theorem bxV_len (Y : List BxV) : (bxV Y).length = Y.length := List.length_map _
theorem bxV_app (Y Z : List BxV) : bxV (Y ++ Z) = bxV Y ++ bxV Z := List.map_append
theorem bxV_at {Y : List BxV} {k : Nat} {a : Bx} (h : (bxV Y)[k]? = some a) : ∃ u, Y[k]? = some (a.1, a.2, u) := by
  unfold bxV at h
  rw [List.getElem?_map, Option.map_eq_some_iff] at h
  obtain ⟨⟨n, F, u⟩, h1, rfl⟩ := h
  exact ⟨u, h1⟩
theorem wcells_one {w : World} {base : Nat} {Y : List BxV} (h : ∀ y ∈ Y, w.ownsRow base 3 1 y.2.2 y.2.1.length (y.2.1.map (Value.int .i64))) : ∀ u ∈ wcells Y, u.oneCell' = true := by
  intro u hu
  obtain ⟨a, ha, h1⟩ := List.mem_flatMap.1 hu
  simp at h1
  rcases h1 with rfl | rfl
  · rfl
  · obtain ⟨A, c, e⟩ := own_slice (h a ha)
    rw [e]; rfl
/-- The blocks of such a list. -/
def WBlk (v : Value) (Y : List BxV) (b : Nat) : Prop := v.ownBlock = some b ∨ ∃ y ∈ Y, y.2.2.ownBlock = some b
/-- The row, the numbers; blocks differ. -/
structure NestB (base : Nat) (w : World) (A : Option Addr) (n c : Nat) (Y : List BxV) : Prop where
  row : w.ownsRow base 40 2 (.slice A n c) n (wcells Y)
  ids : ∀ y ∈ Y, w.ownsRow base 3 1 y.2.2 y.2.1.length (y.2.1.map (Value.int .i64))
  far : ∀ y ∈ Y, ∀ b, y.2.2.ownBlock = some b → (Value.slice A n c).ownBlock ≠ some b
  two : Y.Pairwise fun y z => ∀ b, y.2.2.ownBlock = some b → z.2.2.ownBlock ≠ some b
section
variable {base base' : Nat} {w w' : World} {A : Option Addr} {n c : Nat} {Y : List BxV}
theorem NestB.nil (base : Nat) (w : World) : NestB base w none 0 0 [] := ⟨World.ownsRow_nil _ _ _ _, fun y h => (by cases h), fun y h => (by cases h), List.Pairwise.nil⟩
theorem NestB.len (h : NestB base w A n c Y) : Y.length = n := by have := h.row.1; rw [wcells_len] at this; omega
theorem NestB.lt (h : NestB base w A n c Y) {b : Nat} (hb : WBlk (.slice A n c) Y b) : base ≤ b ∧ b < w.heap.size := by
  rcases hb with hb | ⟨y, hy, hb⟩
  · exact h.row.lt b hb
  · exact (h.ids y hy).lt b hb
theorem NestB.down (h : NestB base w A n c Y) (hb : base' ≤ base) : NestB base' w A n c Y := ⟨own_base h.row hb, fun y hy => own_base (h.ids y hy) hb, h.far, h.two⟩
/-- Kept where none of its blocks is touched. -/
theorem NestB.kept (h : NestB base w A n c Y) (hos : w'.os = w.os) (htp : w'.tape = w.tape) (hout : w'.output = w.output) (hs : w.heap.size ≤ w'.heap.size) (hk : ∀ b, WBlk (.slice A n c) Y b → w'.heap[b]? = w.heap[b]?) : NestB base w' A n c Y := by
  have key : ∀ {e : TypeId} {size m : Nat} {v : Value} {xs : List Value}, w.ownsRow base e size v m xs → (∀ b, v.ownBlock = some b → w'.heap[b]? = w.heap[b]?) → w'.ownsRow base e size v m xs := by
    intro e size m v xs ho hb
    refine ⟨ho.1, ?_⟩
    rcases ho.2 with h | ⟨g, cap, cur, e1, e2, e3, e4⟩
    · exact .inl h
    · exact .inr ⟨g, cap, cur, e1, e2, by rw [hb g (by rw [e1]; rfl)]; exact e3, e4⟩
  exact ⟨key h.row fun b hb => hk b (.inl hb), fun y hy => key (h.ids y hy) fun b hb => hk b (.inr ⟨y, hy, hb⟩), h.far, h.two⟩
theorem NestB.below (h : NestB base w A n c Y) (hb : Below w.heap.size w w') : NestB base w' A n c Y :=
  h.kept hb.os hb.tape hb.output hb.size fun b hb' => hb.block b (h.lt hb').2
theorem NestB.alloc (h : NestB base w A n c Y) (o : Obj) : NestB base (w.alloc o) A n c Y := h.below ((Below.refl _ _).alloc (Nat.le_refl _) o)
theorem NestB.drewN (h : NestB base w A n c Y) (k : Nat) : NestB base (w.drewN k) A n c Y := h.below (below_drewN' _ _ k)
theorem NestB.but {g : Nat} (h : NestB base w A n c Y) (hb : But w.heap.size g w w') (hg : g < base) : NestB base w' A n c Y :=
  h.kept hb.os hb.tape hb.output hb.size fun b hb' => hb.block b (h.lt hb').2 (by have := (h.lt hb').1; omega)
theorem NestB.bxs (h : NestB base w A n c Y) : Bxs w w.heap.size A n (bxV Y) := by
  refine ⟨by rw [bxV_len, h.len], fun hn => ?_⟩
  obtain ⟨g, cap, hv, hg, hlt⟩ := h.row.form hn
  injection hv with hA _ hc
  subst hA hc
  refine ⟨g, 0, rfl, hlt, fun j a ha => ?_⟩
  obtain ⟨u, hu⟩ := bxV_at ha
  have hj : j < n := by have := (List.getElem?_eq_some_iff.1 hu).1; have := h.len; omega
  have hp := wcells_at hu
  refine ⟨by rw [Nat.zero_add, h.row.cellAt (j * 2) (by omega)]; exact hp.1, u, by rw [Nat.zero_add, h.row.cellAt (j * 2 + 1) (by omega)]; exact hp.2, ?_⟩
  exact (Fli.of_own (h.ids _ (List.mem_of_getElem? hu))).more fun b hb => hb.2.1
/-- A further box, its numbers in a block that is newer than w. -/
theorem NestB.snoc {w6 w7 : World} {m : Nat} {nm : ByteArray} {L : List Int} {v6 v7 : Value} {T : TypeId} (h : NestB base w A n c Y) (hb6 : Below w.heap.size w w6) (h6 : w6.ownsRow w.heap.size 3 1 v6 m (L.map (Value.int .i64))) (hbase : base ≤ w.heap.size)
    (own7 : w7.ownsRow base 40 2 v7 (n + 1) (wcells Y ++ [.string nm, v6])) (gr7 : (w6.alloc (.cells #[.string nm, v6] T)).grownBy w7 (Value.slice A n c).ownBlock)
    (at7 : v7.ownBlock = (Value.slice A n c).ownBlock ∨ v7.ownBlock = some (w6.alloc (.cells #[.string nm, v6] T)).heap.size) : ∃ A7 c7, v7 = .slice A7 (n + 1) c7 ∧ NestB base w7 A7 (n + 1) c7 (Y ++ [(nm, L, v6)]) := by
  have hs6 := hb6.size
  have hgs := gr7.size
  simp only [World.size_alloc] at hgs
  have hlt : ∀ q, (Value.slice A n c).ownBlock = some q → base ≤ q ∧ q < w.heap.size := fun q hq => h.row.lt q hq
  have hm : L.length = m := by have := h6.1; rw [List.length_map, Nat.mul_one] at this; exact this
  have hY6 := h.below hb6
  have o6' := h6.alloc (.cells #[.string nm, v6] T)
  have hbl6 : ∀ q, v6.ownBlock = some q → w.heap.size ≤ q ∧ q < w6.heap.size := fun q hq => h6.lt q hq
  have kept7 : ∀ {e : TypeId} {size m : Nat} {v : Value} {xs : List Value}, (w6.alloc (.cells #[.string nm, v6] T)).ownsRow base e size v m xs → (∀ q, v.ownBlock = some q → (Value.slice A n c).ownBlock ≠ some q) → w7.ownsRow base e size v m xs := by
    intro e size m v xs ho hne
    refine ho.kept gr7 ?_
    cases hv : v.ownBlock with
    | none => exact .inl rfl
    | some q => exact .inr (fun e => hne q hv e.symm)
  obtain ⟨A7, c7, rfl⟩ := own_slice own7
  have hat : ∀ q, (q < w6.heap.size) → (Value.slice A n c).ownBlock ≠ some q → (Value.slice A7 (n + 1) c7).ownBlock ≠ some q := by
    intro q hq hne
    rcases at7 with e | e
    · rw [e]; exact hne
    · rw [e]; intro h; simp at h; omega
  refine ⟨A7, c7, rfl, ?_, ?_, ?_, ?_⟩
  · rw [wcells_app]; exact own7
  · intro y hy
    rcases List.mem_append.1 hy with h1 | h1
    · exact kept7 ((hY6.ids y h1).alloc _) (fun q hq => h.far y h1 q hq)
    · rw [List.mem_singleton.1 h1]
      rw [show ((nm, L, v6) : BxV).2.1.length = m from hm]
      exact kept7 (own_base o6' hbase) (fun q hq e => by have := hbl6 q hq; have := hlt q e; omega)
  · intro y hy q hq
    rcases List.mem_append.1 hy with h1 | h1
    · exact hat q (by have := (hY6.ids y h1).lt q hq; omega) (h.far y h1 q hq)
    · rw [List.mem_singleton.1 h1] at hq
      exact hat q (hbl6 q hq).2 (fun e => by have := hbl6 q hq; have := hlt q e; omega)
  · rw [List.pairwise_append]
    refine ⟨h.two, List.pairwise_singleton _ _, fun y hy z hz q hq e => ?_⟩
    rw [List.mem_singleton.1 hz] at e
    have h1 := (h.ids y hy).lt q hq
    have h2 := hbl6 q e
    omega
end
/-- Boxes in memory of the call's own. -/
def OwnB (base : Nat) (w : World) (v : Value) (X : List Bx) : Prop := ∃ A n c Y, v = .slice A n c ∧ bxV Y = X ∧ NestB base w A n c Y
/-- A function hands back boxes, and whether it succeeds. -/
def Own2B (w : World) (o : Option (List Bx)) (e : Ending) (w' : World) : Prop := ∃ v, e = .returned (.tuple #[v, .bool o.isSome]) ∧ OwnB w.heap.size w' v (o.getD []) ∧ Below w.heap.size w w'
/-- .. numbers. -/
def Own2I (w : World) (o : Option (List Int)) (e : Ending) (w' : World) : Prop := ∃ v, e = .returned (.tuple #[v, .bool o.isSome]) ∧ OwnI w.heap.size w' v (o.getD []) ∧ Below w.heap.size w w'
theorem own2_ints {w w' : World} {o : Option (List Int)} {e : Ending} (h : Own2I w o e w') : ∃ A n c, e = .returned (.tuple #[.slice A n c, .bool o.isSome]) ∧ n ≤ c ∧ c ≤ maxLen ∧ Ints w' w'.heap.size A n (o.getD []) ∧ Below w.heap.size w w' := by
  obtain ⟨v, rfl, ⟨A, n, c, rfl, h1⟩, hb⟩ := h
  exact ⟨A, n, c, rfl, (own_cap h1).1, (own_cap h1).2, Ints.of_own h1, hb⟩
theorem own2_bxs {w w' : World} {o : Option (List Bx)} {e : Ending} (h : Own2B w o e w') : ∃ A n c, e = .returned (.tuple #[.slice A n c, .bool o.isSome]) ∧ n ≤ c ∧ c ≤ maxLen ∧ Bxs w' w'.heap.size A n (o.getD []) ∧ Below w.heap.size w w' := by
  obtain ⟨v, rfl, ⟨A, n, c, Y, rfl, e, hN⟩, hb⟩ := h
  exact ⟨A, n, c, rfl, (own_cap hN.row).1, (own_cap hN.row).2, e ▸ hN.bxs, hb⟩
theorem OwnB.nil (base : Nat) (w : World) : OwnB base w (.slice none 0 0) [] := ⟨none, 0, 0, [], rfl, rfl, NestB.nil _ _⟩
theorem OwnI.nil (base : Nat) (w : World) : OwnI base w (.slice none 0 0) [] := ⟨none, 0, 0, rfl, World.ownsRow_nil _ _ _ _⟩
end Go.Proofs.Ytfncmkmhdddmiaa
