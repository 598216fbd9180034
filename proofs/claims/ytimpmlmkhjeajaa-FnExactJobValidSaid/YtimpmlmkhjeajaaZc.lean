/- Texts joined: Iw, Bxw, Bs, With, Ns2, Jw, Aw, Con, Put, Same, SameJ, SameI, OwnA, Dict. -/
import Derived.Test.YtimpmlmkhjeajaaZb
import Derived.Test.YtimpmlmkhjeajaaZa
import Derived.Deep.DeepMust
import Derived.Outline
import Derived.LoopTactic
import Derived.Deep.QuietTactic
import Derived.Test.YtimpmlmkhjeajaaProg
import Derived.Maps.Own
import Derived.StringKeys
import Derived.Maps.OwnOps
import Derived.Maps.Views
import Derived.Maps.Ext

/- Words for numbers in memory. -/
set_option linter.unusedVariables false
set_option linter.unusedSimpArgs false
namespace Go.Proofs.Ytimpmlmkhjeajaa
open Go.RowKit

theorem own_slice {w : World} {base : Nat} {e : TypeId} {size m : Nat} {v : Value} {xs : List Value} (h : w.ownsRow base e size v m xs) : ∃ A c, v = .slice A m c := by
  rcases h.2 with ⟨rfl, rfl⟩ | ⟨g, cap, cur, rfl, _⟩
  · exact ⟨_, _, rfl⟩
  · exact ⟨_, _, rfl⟩
/-- A slice of numbers. -/
def Ints (w : World) (B : Nat) (A : Option Addr) (n : Nat) (L : List Int) : Prop :=
  L.length = n ∧ (0 < n → ∃ g off, A = some ⟨g, off, none⟩ ∧ g < B ∧ ∀ j i, L[j]? = some i → w.cell? ⟨g, off + j, none⟩ = some (.int .i64 i))
section
variable {w w' : World} {B B' n : Nat} {A : Option Addr} {L : List Int}
theorem Ints.keep (h : Ints w B A n L) (hk : ∀ p : Addr, p.block < B → w'.cell? p = w.cell? p) : Ints w' B A n L :=
  ⟨h.1, fun hn => by
    obtain ⟨g, off, e, hb, hc⟩ := h.2 hn
    exact ⟨g, off, e, hb, fun j u hu => (hk ⟨g, off + j, none⟩ hb).trans (hc j u hu)⟩⟩
theorem Ints.more (h : Ints w B A n L) (hB : B ≤ B') : Ints w B' A n L :=
  ⟨h.1, fun hn => by
    obtain ⟨g, off, e, hb, hc⟩ := h.2 hn
    exact ⟨g, off, e, by omega, hc⟩⟩
theorem Ints.below (h : Ints w B A n L) (hb : Below B w w') : Ints w' B A n L := h.keep fun _ hp => hb.cell hp
theorem Ints.drewN (h : Ints w B A n L) (k : Nat) : Ints (w.drewN k) B A n L := h
theorem Ints.on (h : Ints w w.heap.size A n L) (hb : Below w.heap.size w w') : Ints w' w'.heap.size A n L := (h.below hb).more hb.size
theorem Ints.rd (h : Ints w B A n L) : Rd w B 1 A n (L.map (Value.int .i64)) :=
  ⟨by rw [List.length_map, h.1, Nat.mul_one], fun hn => by
    obtain ⟨g, off, e, hb, hc⟩ := h.2 hn
    refine ⟨g, off, e, hb, fun j u hu => ?_⟩
    rw [List.getElem?_map, Option.map_eq_some_iff] at hu
    obtain ⟨s, hs, rfl⟩ := hu
    exact hc j s hs⟩
theorem Ints.of_own {base c : Nat} {e : TypeId} (h : w.ownsRow base e 1 (.slice A n c) n (L.map (Value.int .i64))) : Ints w w.heap.size A n L := by
  have h1 := h.1
  rw [List.length_map, Nat.mul_one] at h1
  refine ⟨h1, fun hn => ?_⟩
  obtain ⟨g, off, e, hb, hc⟩ := (Rd.of_own h).2 hn
  exact ⟨g, off, e, hb, fun j s hs => hc j _ (by rw [List.getElem?_map, hs]; rfl)⟩
theorem one_ints (L : List Int) : ∀ u ∈ L.map (Value.int .i64), u.oneCell' = true := by
  intro u hu
  obtain ⟨s, _, rfl⟩ := List.mem_map.1 hu
  rfl
end
/-- Numbers in memory of the call's own. -/
def OwnI (base : Nat) (w : World) (v : Value) (L : List Int) : Prop := ∃ A n c, v = .slice A n c ∧ w.ownsRow base 3 1 (.slice A n c) n (L.map (Value.int .i64))
def Own1I (w : World) (L : List Int) (e : Ending) (w' : World) : Prop := ∃ v, e = .returned v ∧ OwnI w.heap.size w' v L ∧ Below w.heap.size w w'
theorem OwnI.mk' {base : Nat} {w : World} {v : Value} {m : Nat} {xs : List Value} {L : List Int} (h : w.ownsRow base 3 1 v m xs) (e : xs = L.map (Value.int .i64)) : OwnI base w v L := by
  subst e
  obtain ⟨A, c, rfl⟩ := own_slice h
  exact ⟨_, _, _, rfl, h⟩
theorem own1_ints {w w' : World} {L : List Int} {e : Ending} (h : Own1I w L e w') : ∃ A n c, e = .returned (.slice A n c) ∧ n ≤ c ∧ c ≤ maxLen ∧ Ints w' w'.heap.size A n L ∧ Below w.heap.size w w' := by
  obtain ⟨v, rfl, ⟨A, n, c, rfl, h1⟩, hb⟩ := h
  exact ⟨A, n, c, rfl, (own_cap h1).1, (own_cap h1).2, Ints.of_own h1, hb⟩
theorem Ints.at' {w : World} {B n : Nat} {A : Option Addr} {L : List Int} (h : Ints w B A n L) {j : Nat} {i : Int} (ha : L[j]? = some i) : ∃ g off, A = some ⟨g, off, none⟩ ∧ g < B ∧ w.cell? ⟨g, off + j, none⟩ = some (.int .i64 i) := by
  obtain ⟨g, off, e, hb, hc⟩ := h.2 (by have := (List.getElem?_eq_some_iff.1 ha).1; have := h.1; omega)
  exact ⟨g, off, e, hb, hc j i ha⟩

theorem txt_ne {s t : ByteArray} (h : s ≠ t) : (s.toList == t.toList) = false := by rw [beq_eq_false_iff_ne]; exact fun e => h (toList_inj e)
theorem int_info : (Try.prog.info? 3).map (fun i => (i.zero, i.size, i.bytes)) = some (some (.int .i64 0), 1, 8) := by kernel_rfl
theorem info_parts' {P : Program} {e : TypeId} {z : Value} {size bytes : Nat} (h : (P.info? e).map (fun i => (i.zero, i.size, i.bytes)) = some (some z, size, bytes)) : ∃ i, P.info? e = some i ∧ i.zero = some z ∧ i.size = size ∧ i.bytes = bytes := by
  rw [Option.map_eq_some_iff] at h
  obtain ⟨i, h1, h2⟩ := h
  simp at h2
  exact ⟨i, h1, h2.1, h2.2.1, h2.2.2⟩
theorem rd_two (w : World) (e : TypeId) (x y : Value) : Rd (w.alloc (.cells #[x, y] e)) (w.heap.size + 1) 2 (some ⟨w.heap.size, 0, none⟩) 1 [x, y] :=
  ⟨rfl, fun _ => ⟨_, 0, rfl, by omega, fun j u hu => by
    rw [(Blk.new w e #[x, y]).cell]
    rcases j with _ | _ | j
    · simpa using hu
    · simpa using hu
    · simp at hu⟩⟩
end Go.Proofs.Ytimpmlmkhjeajaa

/- Words for boxes in memory: each list of numbers in a block of its own. -/
set_option linter.unusedVariables false
set_option linter.unusedSimpArgs false
namespace Go.Proofs.Ytimpmlmkhjeajaa
open Go.RowKit

theorem box_info : (Try.prog.info? 55).map (fun i => (i.zero, i.size, i.bytes)) = some (some (.agg #[.string ByteArray.empty, .slice none 0 0]), 2, 40) := by kernel_rfl
theorem own_take {w : World} {base : Nat} {e : TypeId} {size n c m : Nat} {A : Option Addr} {xs : List Value} (h : w.ownsRow base e size (.slice A n c) n xs) (hm : m ≤ n) : w.ownsRow base e size (.slice A m c) m (xs.take (m * size)) := by
  refine ⟨by rw [List.length_take, h.1]; exact Nat.min_eq_left (Nat.mul_le_mul_right _ hm), ?_⟩
  rcases h.2 with ⟨h1, h2⟩ | ⟨g, cap, cur, h1, h2, h3, h4, h5, h6, h7⟩
  · injection h1 with e1 e2 e3
    subst e1 e2 e3
    obtain rfl : m = 0 := by omega
    exact .inl ⟨rfl, rfl⟩
  · injection h1 with e1 _ e3
    subst e1 e3
    refine .inr ⟨g, _, cur, rfl, h2, h3, by omega, h5, h6, ?_⟩
    rw [← h7, List.take_take, Nat.min_eq_left (Nat.mul_le_mul_right _ hm)]
/-- A slice of numbers in blocks of which ok speaks. -/
def Fli (w : World) (ok : Nat → Prop) (u : Value) (L : List Int) : Prop :=
  ∃ A n c, u = .slice A n c ∧ n ≤ c ∧ n ≤ maxLen ∧ L.length = n ∧ (0 < n → ∃ g off, A = some ⟨g, off, none⟩ ∧ ok g ∧ ∀ j i, L[j]? = some i → w.cell? ⟨g, off + j, none⟩ = some (.int .i64 i))
/-- A slice of boxes. -/
def BxsP (w : World) (ok : Nat → Prop) (A : Option Addr) (n : Nat) (X : List Bx) : Prop :=
  X.length = n ∧ (0 < n → ∃ g off, A = some ⟨g, off, none⟩ ∧ ok g ∧ ∀ j a, X[j]? = some a → w.cell? ⟨g, off + j * 2, none⟩ = some (.string a.1) ∧ ∃ u, w.cell? ⟨g, off + j * 2 + 1, none⟩ = some u ∧ Fli w ok u a.2)
abbrev Bxs (w : World) (B : Nat) (A : Option Addr) (n : Nat) (X : List Bx) : Prop := BxsP w (· < B) A n X
/-- The names are short. -/
def BSmall (X : List Bx) : Prop := ∀ a ∈ X, a.1.size ≤ maxLen
section
variable {w w' : World} {ok ok' : Nat → Prop} {u : Value} {L : List Int} {A : Option Addr} {n B B' : Nat} {X : List Bx}
theorem Fli.keep (h : Fli w ok u L) (hk : ∀ p : Addr, ok p.block → w'.cell? p = w.cell? p) : Fli w' ok u L := by
  obtain ⟨A, n, c, e, h1, h2, h3, h4⟩ := h
  refine ⟨A, n, c, e, h1, h2, h3, fun hn => ?_⟩
  obtain ⟨g, off, e, hb, hc⟩ := h4 hn
  exact ⟨g, off, e, hb, fun j s hs => (hk ⟨g, off + j, none⟩ hb).trans (hc j s hs)⟩
theorem Fli.more (h : Fli w ok u L) (hk : ∀ g, ok g → ok' g) : Fli w ok' u L := by
  obtain ⟨A, n, c, e, h1, h2, h3, h4⟩ := h
  refine ⟨A, n, c, e, h1, h2, h3, fun hn => ?_⟩
  obtain ⟨g, off, e, hb, hc⟩ := h4 hn
  exact ⟨g, off, e, hk g hb, hc⟩
theorem Fli.ints {c : Nat} (h : Fli w (· < B) (.slice A n c) L) : Ints w B A n L := by
  obtain ⟨A', n', c', e, h1, h2, h3, h4⟩ := h
  injection e with e1 e2 e3
  subst e1 e2 e3
  exact ⟨h3, h4⟩
theorem BxsP.keep (h : BxsP w ok A n X) (hk : ∀ p : Addr, ok p.block → w'.cell? p = w.cell? p) : BxsP w' ok A n X :=
  ⟨h.1, fun hn => by
    obtain ⟨g, off, e, hb, hc⟩ := h.2 hn
    refine ⟨g, off, e, hb, fun j a ha => ?_⟩
    obtain ⟨h1, u, h2, h3⟩ := hc j a ha
    exact ⟨(hk ⟨g, off + j * 2, none⟩ hb).trans h1, u, (hk ⟨g, off + j * 2 + 1, none⟩ hb).trans h2, h3.keep hk⟩⟩
theorem BxsP.more (h : BxsP w ok A n X) (hk : ∀ g, ok g → ok' g) : BxsP w ok' A n X :=
  ⟨h.1, fun hn => by
    obtain ⟨g, off, e, hb, hc⟩ := h.2 hn
    refine ⟨g, off, e, hk g hb, fun j a ha => ?_⟩
    obtain ⟨h1, u, h2, h3⟩ := hc j a ha
    exact ⟨h1, u, h2, h3.more hk⟩⟩
theorem BxsP.below (h : Bxs w B A n X) (hb : Below B w w') : Bxs w' B A n X := h.keep fun _ hp => hb.cell hp
theorem BxsP.drewN (h : BxsP w ok A n X) (k : Nat) : BxsP (w.drewN k) ok A n X := h
theorem BxsP.up (h : Bxs w B A n X) (hB : B ≤ B') : Bxs w B' A n X := h.more fun _ hg => Nat.lt_of_lt_of_le hg hB
theorem BxsP.on (h : Bxs w w.heap.size A n X) (hb : Below w.heap.size w w') : Bxs w' w'.heap.size A n X := (h.below hb).up hb.size
theorem BxsP.at' {j : Nat} {a : Bx} (h : BxsP w ok A n X) (ha : X[j]? = some a) :
    ∃ g off A' n' c', A = some ⟨g, off, none⟩ ∧ ok g ∧ w.cell? ⟨g, off + j * 2, none⟩ = some (.string a.1) ∧ w.cell? ⟨g, off + j * 2 + 1, none⟩ = some (.slice A' n' c') ∧ n' ≤ c' ∧ n' ≤ maxLen ∧ Fli w ok (.slice A' n' c') a.2 := by
  have hj := (List.getElem?_eq_some_iff.1 ha).1
  obtain ⟨g, off, e, hb, hc⟩ := h.2 (by have := h.1; omega)
  obtain ⟨h1, u, h2, h3⟩ := hc j a ha
  obtain ⟨A', n', c', rfl, l1, l2, l3⟩ := h3
  exact ⟨g, off, A', n', c', e, hb, h1, h2, l1, l2, A', n', c', rfl, l1, l2, l3⟩
theorem Fli.of_own {base m : Nat} {v : Value} (h : w.ownsRow base 3 1 v m (L.map (Value.int .i64))) : Fli w (fun b => base ≤ b ∧ b < w.heap.size ∧ v.ownBlock = some b) v L := by
  have h1 := h.1
  rw [List.length_map, Nat.mul_one] at h1
  rcases h.2 with ⟨rfl, rfl⟩ | ⟨g, cap, cur, rfl, hg, hb, hn, hc, _⟩
  · exact ⟨none, 0, 0, rfl, Nat.le_refl _, Nat.zero_le _, h1, fun hn => absurd hn (by omega)⟩
  · refine ⟨_, _, _, rfl, hn, Nat.le_trans hn hc, h1, fun h0 => ⟨g, 0, rfl, ⟨hg, (h.lt g rfl).2, rfl⟩, fun j s hs => ?_⟩⟩
    have hj : j < m := by have := (List.getElem?_eq_some_iff.1 hs).1; omega
    rw [Nat.zero_add, h.cellAt j (by omega), List.getElem?_map, hs]; rfl
end

/-- A box and where its numbers are. -/
abbrev BxV := ByteArray × List Int × Value
def bxV (Y : List BxV) : List Bx := Y.map fun y => (y.1, y.2.1)
/-- The cells of boxes. -/
def wcells (Y : List BxV) : List Value := Y.flatMap fun y => [.string y.1, y.2.2]
theorem wcells_nil : wcells [] = [] := rfl
theorem wcells_cons (y : BxV) (Y : List BxV) : wcells (y :: Y) = [.string y.1, y.2.2] ++ wcells Y := by simp [wcells]
theorem wcells_app (X Y : List BxV) : wcells (X ++ Y) = wcells X ++ wcells Y := by simp [wcells]
theorem wcells_len (Y : List BxV) : (wcells Y).length = Y.length * 2 := by
  induction Y with
  | nil => rfl
  | cons a X ih => rw [wcells_cons, List.length_append, ih]; simp; omega
theorem wcells_at : ∀ {X : List BxV} {j : Nat} {a : BxV}, X[j]? = some a → (wcells X)[j * 2]? = some (.string a.1) ∧ (wcells X)[j * 2 + 1]? = some a.2.2
  | [], j, a, h => by simp at h
  | b :: X, 0, a, h => by simp at h; subst h; rw [wcells_cons]; simp
  | b :: X, j + 1, a, h => by
    have h' : X[j]? = some a := by simpa using h
    obtain ⟨h1, h2⟩ := wcells_at h'
    rw [wcells_cons]
    refine ⟨?_, ?_⟩
    · rw [List.getElem?_append_right (by simp; omega), show (j + 1) * 2 - [Value.string b.1, b.2.2].length = j * 2 by simp; omega]; exact h1
    · rw [List.getElem?_append_right (by simp; omega), show (j + 1) * 2 + 1 - [Value.string b.1, b.2.2].length = j * 2 + 1 by simp; omega]; exact h2
theorem wcells_set1 : ∀ {X : List BxV} {k : Nat} {a : BxV} (L : List Int) (u : Value), X[k]? = some a → (wcells X).set (k * 2 + 1) u = wcells (X.set k (a.1, L, u))
  | [], k, a, L, v, h => by simp at h
  | b :: X, 0, a, L, v, h => by simp at h; subst h; rw [wcells_cons, List.set_cons_zero, wcells_cons]; rfl
  | b :: X, k + 1, a, L, v, h => by
    have h' : X[k]? = some a := by simpa using h
    rw [wcells_cons, List.set_cons_succ, wcells_cons, ← wcells_set1 L v h', show (k + 1) * 2 + 1 = k * 2 + 1 + 1 + 1 by omega]
    rfl
theorem bxV_len (Y : List BxV) : (bxV Y).length = Y.length := List.length_map _
theorem bxV_app (Y Z : List BxV) : bxV (Y ++ Z) = bxV Y ++ bxV Z := List.map_append
theorem bxV_at {Y : List BxV} {k : Nat} {a : Bx} (h : (bxV Y)[k]? = some a) : ∃ u, Y[k]? = some (a.1, a.2, u) := by
  unfold bxV at h
  rw [List.getElem?_map, Option.map_eq_some_iff] at h
  obtain ⟨⟨n, F, u⟩, h1, rfl⟩ := h
  exact ⟨u, h1⟩
theorem wcells_one {w : World} {base : Nat} {Y : List BxV} (h : ∀ y ∈ Y, w.ownsRow base 3 1 y.2.2 y.2.1.length (y.2.1.map (Value.int .i64))) : ∀ u ∈ wcells Y, u.oneCell' = true := by
  intro u hu
  obtain ⟨a, ha, h1⟩ := List.mem_flatMap.1 hu
  simp at h1
  rcases h1 with rfl | rfl
  · rfl
  · obtain ⟨A, c, e⟩ := own_slice (h a ha)
    rw [e]; rfl
/-- The blocks of such a list. -/
def WBlk (v : Value) (Y : List BxV) (b : Nat) : Prop := v.ownBlock = some b ∨ ∃ y ∈ Y, y.2.2.ownBlock = some b
/-- The row, the numbers; blocks differ. -/
structure NestB (base : Nat) (w : World) (A : Option Addr) (n c : Nat) (Y : List BxV) : Prop where
  row : w.ownsRow base 55 2 (.slice A n c) n (wcells Y)
  ids : ∀ y ∈ Y, w.ownsRow base 3 1 y.2.2 y.2.1.length (y.2.1.map (Value.int .i64))
  far : ∀ y ∈ Y, ∀ b, y.2.2.ownBlock = some b → (Value.slice A n c).ownBlock ≠ some b
  two : Y.Pairwise fun y z => ∀ b, y.2.2.ownBlock = some b → z.2.2.ownBlock ≠ some b
section
variable {base base' : Nat} {w w' : World} {A : Option Addr} {n c : Nat} {Y : List BxV}
theorem NestB.nil (base : Nat) (w : World) : NestB base w none 0 0 [] := ⟨World.ownsRow_nil _ _ _ _, fun y h => (by cases h), fun y h => (by cases h), List.Pairwise.nil⟩
theorem NestB.len (h : NestB base w A n c Y) : Y.length = n := by have := h.row.1; rw [wcells_len] at this; omega
theorem NestB.lt (h : NestB base w A n c Y) {b : Nat} (hb : WBlk (.slice A n c) Y b) : base ≤ b ∧ b < w.heap.size := by
  rcases hb with hb | ⟨y, hy, hb⟩
  · exact h.row.lt b hb
  · exact (h.ids y hy).lt b hb
theorem NestB.down (h : NestB base w A n c Y) (hb : base' ≤ base) : NestB base' w A n c Y := ⟨own_base h.row hb, fun y hy => own_base (h.ids y hy) hb, h.far, h.two⟩
/-- Kept where none of its blocks is touched. -/
theorem NestB.kept (h : NestB base w A n c Y) (hos : w'.os = w.os) (htp : w'.tape = w.tape) (hout : w'.output = w.output) (hs : w.heap.size ≤ w'.heap.size) (hk : ∀ b, WBlk (.slice A n c) Y b → w'.heap[b]? = w.heap[b]?) : NestB base w' A n c Y := by
  have key : ∀ {e : TypeId} {size m : Nat} {v : Value} {xs : List Value}, w.ownsRow base e size v m xs → (∀ b, v.ownBlock = some b → w'.heap[b]? = w.heap[b]?) → w'.ownsRow base e size v m xs := by
    intro e size m v xs ho hb
    refine ⟨ho.1, ?_⟩
    rcases ho.2 with h | ⟨g, cap, cur, e1, e2, e3, e4⟩
    · exact .inl h
    · exact .inr ⟨g, cap, cur, e1, e2, by rw [hb g (by rw [e1]; rfl)]; exact e3, e4⟩
  exact ⟨key h.row fun b hb => hk b (.inl hb), fun y hy => key (h.ids y hy) fun b hb => hk b (.inr ⟨y, hy, hb⟩), h.far, h.two⟩
theorem NestB.below (h : NestB base w A n c Y) (hb : Below w.heap.size w w') : NestB base w' A n c Y :=
  h.kept hb.os hb.tape hb.output hb.size fun b hb' => hb.block b (h.lt hb').2
theorem NestB.alloc (h : NestB base w A n c Y) (o : Obj) : NestB base (w.alloc o) A n c Y := h.below ((Below.refl _ _).alloc (Nat.le_refl _) o)
theorem NestB.drewN (h : NestB base w A n c Y) (k : Nat) : NestB base (w.drewN k) A n c Y := h.below (below_drewN' _ _ k)
theorem NestB.but {g : Nat} (h : NestB base w A n c Y) (hb : But w.heap.size g w w') (hg : g < base) : NestB base w' A n c Y :=
  h.kept hb.os hb.tape hb.output hb.size fun b hb' => hb.block b (h.lt hb').2 (by have := (h.lt hb').1; omega)
theorem NestB.bxs (h : NestB base w A n c Y) : Bxs w w.heap.size A n (bxV Y) := by
  refine ⟨by rw [bxV_len, h.len], fun hn => ?_⟩
  obtain ⟨g, cap, hv, hg, hlt⟩ := h.row.form hn
  injection hv with hA _ hc
  subst hA hc
  refine ⟨g, 0, rfl, hlt, fun j a ha => ?_⟩
  obtain ⟨u, hu⟩ := bxV_at ha
  have hj : j < n := by have := (List.getElem?_eq_some_iff.1 hu).1; have := h.len; omega
  have hp := wcells_at hu
  refine ⟨by rw [Nat.zero_add, h.row.cellAt (j * 2) (by omega)]; exact hp.1, u, by rw [Nat.zero_add, h.row.cellAt (j * 2 + 1) (by omega)]; exact hp.2, ?_⟩
  exact (Fli.of_own (h.ids _ (List.mem_of_getElem? hu))).more fun b hb => hb.2.1
/-- A further box, its numbers in a block that is newer than w. -/
theorem NestB.snoc {w6 w7 : World} {m : Nat} {nm : ByteArray} {L : List Int} {v6 v7 : Value} {T : TypeId} (h : NestB base w A n c Y) (hb6 : Below w.heap.size w w6) (h6 : w6.ownsRow w.heap.size 3 1 v6 m (L.map (Value.int .i64))) (hbase : base ≤ w.heap.size)
    (own7 : w7.ownsRow base 55 2 v7 (n + 1) (wcells Y ++ [.string nm, v6])) (gr7 : (w6.alloc (.cells #[.string nm, v6] T)).grownBy w7 (Value.slice A n c).ownBlock)
    (at7 : v7.ownBlock = (Value.slice A n c).ownBlock ∨ v7.ownBlock = some (w6.alloc (.cells #[.string nm, v6] T)).heap.size) : ∃ A7 c7, v7 = .slice A7 (n + 1) c7 ∧ NestB base w7 A7 (n + 1) c7 (Y ++ [(nm, L, v6)]) := by
  have hs6 := hb6.size
  have hgs := gr7.size
  simp only [World.size_alloc] at hgs
  have hlt : ∀ q, (Value.slice A n c).ownBlock = some q → base ≤ q ∧ q < w.heap.size := fun q hq => h.row.lt q hq
  have hm : L.length = m := by have := h6.1; rw [List.length_map, Nat.mul_one] at this; exact this
  have hY6 := h.below hb6
  have o6' := h6.alloc (.cells #[.string nm, v6] T)
  have hbl6 : ∀ q, v6.ownBlock = some q → w.heap.size ≤ q ∧ q < w6.heap.size := fun q hq => h6.lt q hq
  have kept7 : ∀ {e : TypeId} {size m : Nat} {v : Value} {xs : List Value}, (w6.alloc (.cells #[.string nm, v6] T)).ownsRow base e size v m xs → (∀ q, v.ownBlock = some q → (Value.slice A n c).ownBlock ≠ some q) → w7.ownsRow base e size v m xs := by
    intro e size m v xs ho hne
    refine ho.kept gr7 ?_
    cases hv : v.ownBlock with
    | none => exact .inl rfl
    | some q => exact .inr (fun e => hne q hv e.symm)
  obtain ⟨A7, c7, rfl⟩ := own_slice own7
  have hat : ∀ q, (q < w6.heap.size) → (Value.slice A n c).ownBlock ≠ some q → (Value.slice A7 (n + 1) c7).ownBlock ≠ some q := by
    intro q hq hne
    rcases at7 with e | e
    · rw [e]; exact hne
    · rw [e]; intro h; simp at h; omega
  refine ⟨A7, c7, rfl, ?_, ?_, ?_, ?_⟩
  · rw [wcells_app]; exact own7
  · intro y hy
    rcases List.mem_append.1 hy with h1 | h1
    · exact kept7 ((hY6.ids y h1).alloc _) (fun q hq => h.far y h1 q hq)
    · rw [List.mem_singleton.1 h1]
      rw [show ((nm, L, v6) : BxV).2.1.length = m from hm]
      exact kept7 (own_base o6' hbase) (fun q hq e => by have := hbl6 q hq; have := hlt q e; omega)
  · intro y hy q hq
    rcases List.mem_append.1 hy with h1 | h1
    · exact hat q (by have := (hY6.ids y h1).lt q hq; omega) (h.far y h1 q hq)
    · rw [List.mem_singleton.1 h1] at hq
      exact hat q (hbl6 q hq).2 (fun e => by have := hbl6 q hq; have := hlt q e; omega)
  · rw [List.pairwise_append]
    refine ⟨h.two, List.pairwise_singleton _ _, fun y hy z hz q hq e => ?_⟩
    rw [List.mem_singleton.1 hz] at e
    have h1 := (h.ids y hy).lt q hq
    have h2 := hbl6 q e
    omega
end
/-- Boxes in memory of the call's own. -/
def OwnB (base : Nat) (w : World) (v : Value) (X : List Bx) : Prop := ∃ A n c Y, v = .slice A n c ∧ bxV Y = X ∧ NestB base w A n c Y
/-- A function hands back boxes, and whether it succeeds. -/
def Own2B (w : World) (o : Option (List Bx)) (e : Ending) (w' : World) : Prop := ∃ v, e = .returned (.tuple #[v, .bool o.isSome]) ∧ OwnB w.heap.size w' v (o.getD []) ∧ Below w.heap.size w w'
/-- .. numbers. -/
def Own2I (w : World) (o : Option (List Int)) (e : Ending) (w' : World) : Prop := ∃ v, e = .returned (.tuple #[v, .bool o.isSome]) ∧ OwnI w.heap.size w' v (o.getD []) ∧ Below w.heap.size w w'
theorem own2_ints {w w' : World} {o : Option (List Int)} {e : Ending} (h : Own2I w o e w') : ∃ A n c, e = .returned (.tuple #[.slice A n c, .bool o.isSome]) ∧ n ≤ c ∧ c ≤ maxLen ∧ Ints w' w'.heap.size A n (o.getD []) ∧ Below w.heap.size w w' := by
  obtain ⟨v, rfl, ⟨A, n, c, rfl, h1⟩, hb⟩ := h
  exact ⟨A, n, c, rfl, (own_cap h1).1, (own_cap h1).2, Ints.of_own h1, hb⟩
theorem own2_bxs {w w' : World} {o : Option (List Bx)} {e : Ending} (h : Own2B w o e w') : ∃ A n c, e = .returned (.tuple #[.slice A n c, .bool o.isSome]) ∧ n ≤ c ∧ c ≤ maxLen ∧ Bxs w' w'.heap.size A n (o.getD []) ∧ Below w.heap.size w w' := by
  obtain ⟨v, rfl, ⟨A, n, c, Y, rfl, e, hN⟩, hb⟩ := h
  exact ⟨A, n, c, rfl, (own_cap hN.row).1, (own_cap hN.row).2, e ▸ hN.bxs, hb⟩
theorem OwnB.nil (base : Nat) (w : World) : OwnB base w (.slice none 0 0) [] := ⟨none, 0, 0, [], rfl, rfl, NestB.nil _ _⟩
theorem OwnI.nil (base : Nat) (w : World) : OwnI base w (.slice none 0 0) [] := ⟨none, 0, 0, rfl, World.ownsRow_nil _ _ _ _⟩
end Go.Proofs.Ytimpmlmkhjeajaa

/- Where a name stands: slices.BinarySearch, nameList.place. -/
namespace Go.Proofs.Ytimpmlmkhjeajaa
open Go.RowKit

end Go.Proofs.Ytimpmlmkhjeajaa

/- nameList.with, nameList.without. -/
namespace Go.Proofs.Ytimpmlmkhjeajaa
open Go.RowKit

theorem str_info : (Try.prog.info? 9).map (fun i => (i.zero, i.size, i.bytes)) = some (some (.string ByteArray.empty), 1, 16) := by kernel_rfl

/-- A list of strings in memory of the call's own. -/
def OwnL (base : Nat) (w' : World) (v : Value) (L : List ByteArray) : Prop := ∃ A n c, v = .slice A n c ∧ w'.ownsRow base 9 1 (.slice A n c) n (L.map Value.string)
/-- A function hands back such a list; nothing that was there has turned. -/
def Own1 (w : World) (L : List ByteArray) (e : Ending) (w' : World) : Prop := ∃ v, e = .returned v ∧ OwnL w.heap.size w' v L ∧ Below w.heap.size w w'
/-- .. and whether it succeeds. -/
def Own2 (w : World) (o : Option (List ByteArray)) (e : Ending) (w' : World) : Prop := ∃ v, e = .returned (.tuple #[v, .bool o.isSome]) ∧ OwnL w.heap.size w' v (o.getD []) ∧ Below w.heap.size w w'

theorem OwnL.mk {base : Nat} {w' : World} {v : Value} {m : Nat} {xs : List Value} {L : List ByteArray} (h : w'.ownsRow base 9 1 v m xs) (e : xs = L.map Value.string) : OwnL base w' v L := by
  subst e
  rcases h.2 with ⟨rfl, rfl⟩ | ⟨g, cap, cur, rfl, _⟩
  · exact ⟨_, _, _, rfl, h⟩
  · exact ⟨_, _, _, rfl, h⟩

end Go.Proofs.Ytimpmlmkhjeajaa

/- Lists of names: NamesValid of both, l1At, sameNames, hasName. -/
namespace Go.Proofs.Ytimpmlmkhjeajaa
open Go.RowKit

set_option maxHeartbeats 400000 in
theorem i_NamesValid (A : Option Addr) (n c : Nat) (L : List ByteArray) (w : World) (hL : Strs w w.heap.size A n L) (hS : Small L) (hn : n ≤ maxLen) :
    Calls Try.prog 104 #[.slice A n c] w fun e w' => e = .returned (.bool (nsB L)) ∧ w = w' := by
  have hL := hide hL
  have hS := hide hS
  have hn := hide hn
  go_enter Try.func104, Try.ntmps104
  go_wp2_with fail
  refine (nl_valid A n c L _ hL.out hS.out hn.out).mono ?_
  rintro e w' ⟨rfl, rfl⟩
  go_wp2_with fail
  go_ret
  exact ⟨rfl, rfl⟩

def leB (n m : Nat) : Bool := decide (n ≤ m)
set_option maxHeartbeats 1000000 in
theorem s_NamesValid (A : Option Addr) (n c : Nat) (L : List ByteArray) (w : World) (hL : Strs w w.heap.size A n L) (hS : Small L) (hn : n ≤ maxLen) :
    Calls Try.prog 88 #[.slice A n c] w fun e w' => e = .returned (.bool (nsB L)) ∧ ∃ q, w' = w.drewN q := by
  unfold maxLen at hn
  have hl := hide hL.1
  have hL := hide hL.2
  have hS := hide hS
  go_enter Try.func88, Try.ntmps88
  go_wp2_with fail
  go_loopw [3] (fun i wr => ∃ k q : Nat, k ≤ n ∧ i = .int .i64 k ∧ Hid (Upto L k) ∧ wr = w.drewN q) (fun i _ => n - (intOf i).toNat)
  case atStart => exact ⟨0, 0, Nat.zero_le _, rfl, Upto.zero L, rfl⟩
  case round =>
    obtain ⟨k, q, hk, rfl, hu, rfl⟩ := hrel
    by_cases hlt : k < n
    · obtain ⟨g, off, rfl, hb, hc⟩ := hL.out (by omega)
      obtain ⟨s, hs⟩ : ∃ s, L[k]? = some s := ⟨L[k]'(by have := hl.out; omega), List.getElem?_eq_getElem _⟩
      have hck := hc k s hs
      have hsz := hS.out s (List.mem_of_getElem? hs)
      cases hv : nvB s
      · have H : Hid (nsB L = false) := nsB_bad hs hv
        have HV := hide hv
        clear hs hc hv
        go_wp2_with fail
        go_quiet ((go_at_call 102; exact quiet_add_left (s_NV HV.out _ hsz)))
        go_wp2_with fail
        go_ret
        exact ⟨ret_bool H.out.symm, _, World.drewN_drewN _ _ _⟩
      · rcases k with _ | k
        · have H : Hid (Upto L 1) := Upto.one hs hv
          rw [Nat.add_zero] at hck
          have HV := hide hv
          clear hs hc hv
          go_wp2_with fail
          go_quiet ((go_at_call 102; exact quiet_add_left (s_NV HV.out _ hsz)))
          go_wp2_with fail
          go_roundw
          case rel => exact ⟨1, _, by omega, by go_num, H, rfl⟩
          case measure => simp [intOf]; omega
        · obtain ⟨r, hr⟩ : ∃ r, L[k]? = some r := ⟨L[k]'(by have := hl.out; omega), List.getElem?_eq_getElem _⟩
          have hcr := hc k r hr
          have hk1 : (k : Int) + 1 < (n : Int) := by omega
          cases hrs : blt r s
          · have H : Hid (nsB L = false) := nsB_turn hr hs hrs
            have hrs' : Op.bytesLess r.toList s.toList = false := hrs
            have HV := hide hv
            clear hs hr hc hrs hv
            go_wp2_with fail
            go_quiet ((go_at_call 102; exact quiet_add_left (s_NV HV.out _ hsz)))
            go_wp2_with fail
            go_ret
            exact ⟨ret_bool H.out.symm, _, World.drewN_drewN _ _ _⟩
          · have H : Hid (Upto L (k + 2)) := hu.out.more hr hs hv hrs
            have hrs' : Op.bytesLess r.toList s.toList = true := hrs
            have HV := hide hv
            clear hs hr hc hrs hv
            go_wp2_with fail
            go_quiet ((go_at_call 102; exact quiet_add_left (s_NV HV.out _ hsz)))
            go_wp2_with fail
            go_roundw
            case rel => exact ⟨k + 2, _, by omega, by go_num, H, rfl⟩
            case measure => simp [intOf]; omega
    · have H : Hid (nsB L = decide ((n : Int) ≤ 10)) := by
        have h1 := hu.out
        have h2 := hl.out
        rw [show k = n by omega, ← h2] at h1
        by_cases h10 : L.length ≤ 10
        · exact (h1.all h10).trans (by simp; omega)
        · exact (Upto.long h10).trans (by simp; omega)
      go_wp2_with fail
      go_ret
      exact ⟨ret_bool H.out.symm, _, rfl⟩
end Go.Proofs.Ytimpmlmkhjeajaa

/- Words for jobs in memory. -/
set_option linter.unusedVariables false
set_option linter.unusedSimpArgs false
namespace Go.Proofs.Ytimpmlmkhjeajaa
open Go.RowKit

/-- A job in memory of the call's own. -/
def OwnJ (base : Nat) (w : World) (v : Value) (j : Jb) : Prop := ∃ A n c, v = .agg #[.int .i64 j.1, .slice A n c, .int .i64 j.2.2] ∧ w.ownsRow base 9 1 (.slice A n c) n (j.2.1.map Value.string)
/-- A function hands back a job, and whether it succeeds. -/
def Own2J (w : World) (o : Option Jb) (e : Ending) (w' : World) : Prop := ∃ v, e = .returned (.tuple #[v, .bool o.isSome]) ∧ OwnJ w.heap.size w' v (o.getD jb0) ∧ Below w.heap.size w w'
/-- .. names, a job; their memory differs. -/
def Own3J (w : World) (o : Option (List ByteArray × Jb)) (e : Ending) (w' : World) : Prop := ∃ A n c B m d, e = .returned (.tuple #[.slice A n c, .agg #[.int .i64 (o.getD ([], jb0)).2.1, .slice B m d, .int .i64 (o.getD ([], jb0)).2.2.2], .bool o.isSome]) ∧
  w'.ownsRow w.heap.size 9 1 (.slice A n c) n ((o.getD ([], jb0)).1.map Value.string) ∧ w'.ownsRow w.heap.size 9 1 (.slice B m d) m ((o.getD ([], jb0)).2.2.1.map Value.string) ∧ (∀ b, (Value.slice A n c).ownBlock = some b → (Value.slice B m d).ownBlock ≠ some b) ∧ Below w.heap.size w w'
/-- .. boxes, a job; their memory differs. -/
def Own3B (w : World) (o : Option (List Bx × Jb)) (e : Ending) (w' : World) : Prop := ∃ A n c Y B m d, e = .returned (.tuple #[.slice A n c, .agg #[.int .i64 (o.getD ([], jb0)).2.1, .slice B m d, .int .i64 (o.getD ([], jb0)).2.2.2], .bool o.isSome]) ∧
  bxV Y = (o.getD ([], jb0)).1 ∧ NestB w.heap.size w' A n c Y ∧ w'.ownsRow w.heap.size 9 1 (.slice B m d) m ((o.getD ([], jb0)).2.2.1.map Value.string) ∧ (∀ b, WBlk (.slice A n c) Y b → (Value.slice B m d).ownBlock ≠ some b) ∧ Below w.heap.size w w'
theorem own2_job {w w' : World} {o : Option Jb} {e : Ending} (h : Own2J w o e w') : ∃ A n c, e = .returned (.tuple #[.agg #[.int .i64 (o.getD jb0).1, .slice A n c, .int .i64 (o.getD jb0).2.2], .bool o.isSome]) ∧ n ≤ c ∧ c ≤ maxLen ∧ Strs w' w'.heap.size A n (o.getD jb0).2.1 ∧ Below w.heap.size w w' := by
  obtain ⟨v, rfl, ⟨A, n, c, rfl, h1⟩, hb⟩ := h
  exact ⟨A, n, c, rfl, (own_cap h1).1, (own_cap h1).2, Strs.of_own h1, hb⟩
theorem own3_job {w w' : World} {o : Option (List ByteArray × Jb)} {e : Ending} (h : Own3J w o e w') : ∃ A n c B m d, e = .returned (.tuple #[.slice A n c, .agg #[.int .i64 (o.getD ([], jb0)).2.1, .slice B m d, .int .i64 (o.getD ([], jb0)).2.2.2], .bool o.isSome]) ∧
    n ≤ c ∧ c ≤ maxLen ∧ m ≤ d ∧ d ≤ maxLen ∧ Strs w' w'.heap.size A n (o.getD ([], jb0)).1 ∧ Strs w' w'.heap.size B m (o.getD ([], jb0)).2.2.1 ∧ Below w.heap.size w w' := by
  obtain ⟨A, n, c, B, m, d, rfl, h1, h2, _, hb⟩ := h
  exact ⟨A, n, c, B, m, d, rfl, (own_cap h1).1, (own_cap h1).2, (own_cap h2).1, (own_cap h2).2, Strs.of_own h1, Strs.of_own h2, hb⟩
theorem own3_run {w w' : World} {o : Option (List Bx × Jb)} {e : Ending} (h : Own3B w o e w') : ∃ A n c B m d, e = .returned (.tuple #[.slice A n c, .agg #[.int .i64 (o.getD ([], jb0)).2.1, .slice B m d, .int .i64 (o.getD ([], jb0)).2.2.2], .bool o.isSome]) ∧
    n ≤ c ∧ c ≤ maxLen ∧ m ≤ d ∧ d ≤ maxLen ∧ Bxs w' w'.heap.size A n (o.getD ([], jb0)).1 ∧ Strs w' w'.heap.size B m (o.getD ([], jb0)).2.2.1 ∧ Below w.heap.size w w' := by
  obtain ⟨A, n, c, Y, B, m, d, rfl, h0, h1, h2, _, hb⟩ := h
  exact ⟨A, n, c, B, m, d, rfl, (own_cap h1.row).1, (own_cap h1.row).2, (own_cap h2).1, (own_cap h2).2, h0 ▸ h1.bxs, Strs.of_own h2, hb⟩
theorem Strs.on' {w w' : World} {A : Option Addr} {n : Nat} {L : List ByteArray} (h : Strs w w.heap.size A n L) (hb : Below w.heap.size w w') : Strs w' w'.heap.size A n L := (h.below hb).more hb.size
theorem nest_job {base n c p : Nat} {A : Option Addr} {Y : List BxV} {w : World} (h : NestB base w A n c Y) (hp : p < base) (a b d : Value) : NestB base (((w.setCell ⟨p, 0, none⟩ a).setCell ⟨p, 1, none⟩ b).setCell ⟨p, 2, none⟩ d) A n c Y :=
  h.but (g := p) (((But.set_ _ _ _).trans (But.set_ _ _ _)).trans (But.set_ _ _ _)) hp
end Go.Proofs.Ytimpmlmkhjeajaa

/- Words for accounts in memory: no program. -/
set_option linter.unusedVariables false
namespace Go.Proofs.Ytimpmlmkhjeajaa
open Go.RowKit

/-- A slice of strings in blocks of which ok speaks. -/
def Fls (w : World) (ok : Nat → Prop) (u : Value) (F : List ByteArray) : Prop :=
  ∃ A n c, u = .slice A n c ∧ n ≤ c ∧ n ≤ maxLen ∧ F.length = n ∧ (0 < n → ∃ g off, A = some ⟨g, off, none⟩ ∧ ok g ∧ ∀ j s, F[j]? = some s → w.cell? ⟨g, off + j, none⟩ = some (.string s))
/-- A slice of accounts in such blocks. -/
def AccsP (w : World) (ok : Nat → Prop) (A : Option Addr) (n : Nat) (X : List Acc) : Prop :=
  X.length = n ∧ (0 < n → ∃ g off, A = some ⟨g, off, none⟩ ∧ ok g ∧ ∀ j a, X[j]? = some a → w.cell? ⟨g, off + j * 2, none⟩ = some (.string a.1) ∧ ∃ u, w.cell? ⟨g, off + j * 2 + 1, none⟩ = some u ∧ Fls w ok u a.2)
/-- .. below block B. -/
abbrev Accs (w : World) (B : Nat) (A : Option Addr) (n : Nat) (X : List Acc) : Prop := AccsP w (· < B) A n X
/-- The names and the followers are short. -/
def ASmall (X : List Acc) : Prop := ∀ a ∈ X, a.1.size ≤ maxLen ∧ ∀ s ∈ a.2, s.size ≤ maxLen
section
variable {w w' : World} {ok ok' : Nat → Prop} {u : Value} {F : List ByteArray} {A : Option Addr} {n B B' : Nat} {X : List Acc}
theorem Fls.keep (h : Fls w ok u F) (hk : ∀ p : Addr, ok p.block → w'.cell? p = w.cell? p) : Fls w' ok u F := by
  obtain ⟨A, n, c, e, h1, h2, h3, h4⟩ := h
  refine ⟨A, n, c, e, h1, h2, h3, fun hn => ?_⟩
  obtain ⟨g, off, e, hb, hc⟩ := h4 hn
  exact ⟨g, off, e, hb, fun j s hs => (hk ⟨g, off + j, none⟩ hb).trans (hc j s hs)⟩
theorem Fls.more (h : Fls w ok u F) (hk : ∀ g, ok g → ok' g) : Fls w ok' u F := by
  obtain ⟨A, n, c, e, h1, h2, h3, h4⟩ := h
  refine ⟨A, n, c, e, h1, h2, h3, fun hn => ?_⟩
  obtain ⟨g, off, e, hb, hc⟩ := h4 hn
  exact ⟨g, off, e, hk g hb, hc⟩
theorem Fls.open (h : Fls w (· < B) u F) : ∃ A n c, u = .slice A n c ∧ n ≤ c ∧ n ≤ maxLen ∧ Strs w B A n F := h.elim fun A ⟨n, c, e, h1, h2, h3, h4⟩ => ⟨A, n, c, e, h1, h2, h3, h4⟩
theorem AccsP.keep (h : AccsP w ok A n X) (hk : ∀ p : Addr, ok p.block → w'.cell? p = w.cell? p) : AccsP w' ok A n X :=
  ⟨h.1, fun hn => by
    obtain ⟨g, off, e, hb, hc⟩ := h.2 hn
    refine ⟨g, off, e, hb, fun j a ha => ?_⟩
    obtain ⟨h1, u, h2, h3⟩ := hc j a ha
    exact ⟨(hk ⟨g, off + j * 2, none⟩ hb).trans h1, u, (hk ⟨g, off + j * 2 + 1, none⟩ hb).trans h2, h3.keep hk⟩⟩
theorem AccsP.more (h : AccsP w ok A n X) (hk : ∀ g, ok g → ok' g) : AccsP w ok' A n X :=
  ⟨h.1, fun hn => by
    obtain ⟨g, off, e, hb, hc⟩ := h.2 hn
    refine ⟨g, off, e, hk g hb, fun j a ha => ?_⟩
    obtain ⟨h1, u, h2, h3⟩ := hc j a ha
    exact ⟨h1, u, h2, h3.more hk⟩⟩
theorem AccsP.below (h : Accs w B A n X) (hb : Below B w w') : Accs w' B A n X := h.keep fun _ hp => hb.cell hp
theorem AccsP.drewN (h : AccsP w ok A n X) (k : Nat) : AccsP (w.drewN k) ok A n X := h
theorem AccsP.up (h : Accs w B A n X) (hB : B ≤ B') : Accs w B' A n X := h.more fun _ hg => Nat.lt_of_lt_of_le hg hB
theorem AccsP.alloc (h : Accs w B A n X) (hB : B ≤ w.heap.size) (o : Obj) : Accs (w.alloc o) B A n X := h.below ((Below.refl B w).alloc hB o)
/-- Carried over a call, and read as of the new world. -/
theorem AccsP.on (h : Accs w w.heap.size A n X) (hb : Below w.heap.size w w') : Accs w' w'.heap.size A n X := (h.below hb).up hb.size
theorem Strs.on {L : List ByteArray} (h : Strs w w.heap.size A n L) (hb : Below w.heap.size w w') : Strs w' w'.heap.size A n L := (h.below hb).more hb.size
end
end Go.Proofs.Ytimpmlmkhjeajaa

/- slices.Contains at both types. -/
namespace Go.Proofs.Ytimpmlmkhjeajaa
open Go.RowKit
set_option maxHeartbeats 1000000 in
theorem c_has_idx (A : Option Addr) (n c : Nat) (L : List ByteArray) (s : ByteArray) (w : World) (hL : Strs w w.heap.size A n L) (hn : n ≤ maxLen) :
    Calls Try.prog 133 #[.slice A n c, .string s] w fun e w' => e = .returned (.int .i64 (atI L s)) ∧ w = w' := by
  unfold maxLen at hn
  have hl := hide hL.1
  have hL := hide hL.2
  go_enter Try.func133, Try.ntmps133
  go_wp2_with fail
  go_loop [8] (fun i => ∃ k : Nat, k ≤ n ∧ i = .int .i64 k ∧ Hid (∀ j, j < k → L[j]? ≠ some s)) (fun i => n - (intOf i).toNat)
  case atStart => exact ⟨0, Nat.zero_le _, rfl, fun j h => absurd h (by omega)⟩
  case round =>
    obtain ⟨k, hk, rfl, hu⟩ := hrel
    by_cases hlt : k < n
    · obtain ⟨g, off, rfl, hb, hc⟩ := hL.out (by omega)
      obtain ⟨t, ht⟩ : ∃ t, L[k]? = some t := ⟨L[k]'(by have := hl.out; omega), List.getElem?_eq_getElem _⟩
      have hck := hc k t ht
      by_cases e : t = s
      · subst e
        have H : Hid (atI L t = k) := atI_of ht hu.out
        clear ht hc
        go_wp2_with fail
        go_ret
        exact ⟨ret_int H.out.symm, rfl⟩
      · have hne := beq_of_ne (Ne.symm e)
        have H : Hid (∀ j, j < k + 1 → L[j]? ≠ some s) := fun j hj hs => by
          by_cases ej : j = k
          · subst ej; rw [ht] at hs; cases hs; exact e rfl
          · exact hu.out j (by omega) hs
        clear ht hc e
        go_wp2_with fail
        go_round
        case rel => exact ⟨k + 1, by omega, by go_num, H⟩
        case measure => simp [intOf]; omega
    · have H : Hid (atI L s = -1) := atI_no (not_mem_of fun j hj => hu.out j (by have := hl.out; omega))
      go_wp2_with fail
      go_ret
      exact ⟨ret_int H.out.symm, rfl⟩

set_option maxHeartbeats 1000000 in
theorem c_has (A : Option Addr) (n c : Nat) (L : List ByteArray) (s : ByteArray) (w : World) (hL : Strs w w.heap.size A n L) (hn : n ≤ maxLen) :
    Calls Try.prog 130 #[.slice A n c, .string s] w fun e w' => e = .returned (.bool (memB L s)) ∧ w = w' := by
  have hL := hide hL
  have hn := hide hn
  go_enter Try.func130, Try.ntmps130
  go_wp2_with fail
  refine (c_has_idx A n c L s _ hL.out hn.out).mono ?_
  rintro e w' ⟨rfl, rfl⟩
  cases hm : memB L s
  · have h1 : atI L s = -1 := by unfold atI; rw [hm]; rfl
    rw [h1]
    go_wp2_with fail
    go_ret
    exact ⟨ret_bool (by simp [hm]), rfl⟩
  · obtain ⟨k, h1⟩ : ∃ k : Nat, atI L s = k := ⟨L.findIdx (fun t => decide (t = s)), by unfold atI; rw [hm]; rfl⟩
    rw [h1]
    clear h1
    go_wp2_with fail
    go_ret
    exact ⟨ret_bool (by simp [hm]), rfl⟩

end Go.Proofs.Ytimpmlmkhjeajaa

/- impl.NamesPut, impl.NamesDrop. -/
namespace Go.Proofs.Ytimpmlmkhjeajaa
open Go.RowKit

theorem OwnL.nil (base : Nat) (w' : World) : OwnL base w' (.slice none 0 0) [] := ⟨_, _, _, rfl, World.ownsRow_nil _ _ _ _⟩
theorem nvB_small {s : ByteArray} (h : nvB s = true) : s.size ≤ maxLen := by have := nvB_size h; unfold maxLen; omega
theorem nsB_small {L : List ByteArray} (h : nsB L = true) : Small L := fun _ hs => nvB_small (nsB_nv h hs)
theorem put_small {L : List ByteArray} {s : ByteArray} (hL : Small L) (hs : s.size ≤ maxLen) : Small (put L s) := fun t ht => by
  rcases put_mem.1 ht with rfl | h
  · exact hs
  · exact hL t h
theorem Strs.lt {w : World} {B n : Nat} {A : Option Addr} {L : List ByteArray} (h : Strs w B A n L) : L.length = n := h.1

end Go.Proofs.Ytimpmlmkhjeajaa

/- sameNames of a list and itself. -/
namespace Go.Proofs.Ytimpmlmkhjeajaa
open Go.RowKit

theorem l_same_t (A : Option Addr) (n c : Nat) (B : Option Addr) (m d : Nat) (L : List ByteArray) (w : World) (hL : Strs w w.heap.size A n L) (hM : Strs w w.heap.size B m L) (hn : n ≤ maxLen) (hm : m ≤ maxLen) :
    Calls Try.prog 24 #[.slice A n c, .slice B m d] w fun e w' => e = .returned (.bool true) ∧ ∃ q, w' = w.drewN q := by
  refine (l_same A n c L B m d L w hL hM hn hm).mono fun e w' h => ?_
  rw [decide_eq_true (rfl : L = L)] at h
  exact h
end Go.Proofs.Ytimpmlmkhjeajaa

/- sameJob of a job and itself. -/
set_option linter.unusedVariables false
set_option linter.unusedSimpArgs false
namespace Go.Proofs.Ytimpmlmkhjeajaa
open Go.RowKit

set_option maxHeartbeats 1000000 in
set_option maxRecDepth 100000 in
theorem l_sameJ (i d : Int) (A : Option Addr) (n c : Nat) (B : Option Addr) (m e : Nat) (L : List ByteArray) (w : World) (hL : Strs w w.heap.size A n L) (hM : Strs w w.heap.size B m L) (hn : n ≤ maxLen) (hm : m ≤ maxLen) :
    Calls Try.prog 22 #[.agg #[.int .i64 i, .slice A n c, .int .i64 d], .agg #[.int .i64 i, .slice B m e, .int .i64 d]] w fun e w' => e = .returned (.bool true) ∧ Below w.heap.size w w' := by
  have hb0 : ∀ T, Below w.heap.size w ((w.alloc (.cells #[.int .i64 i, .slice A n c, .int .i64 d] T)).alloc (.cells #[.int .i64 i, .slice B m e, .int .i64 d] T)) := fun T => ((Below.refl _ _).alloc (Nat.le_refl _) _).alloc (by simp) _
  have HL := hide (fun T => hL.on' (hb0 T))
  have HM := hide (fun T => hM.on' (hb0 T))
  have Hb0 := hide hb0
  have HN := hide hn
  have HM' := hide hm
  clear hL hM hb0 hn hm
  go_enter Try.func22, Try.ntmps22
  go_wp2_with fail
  refine (l_same_t A n c B m e L _ (HL.out _) (HM.out _) HN.out HM'.out).mono ?_
  rintro e w' ⟨rfl, q, rfl⟩
  go_wp2_with fail
  go_ret
  exact ⟨rfl, below_drewN (Hb0.out _) q⟩
end Go.Proofs.Ytimpmlmkhjeajaa

/- sameInts, hasInt. -/
set_option linter.unusedVariables false
set_option linter.unusedSimpArgs false
namespace Go.Proofs.Ytimpmlmkhjeajaa
open Go.RowKit

set_option maxHeartbeats 1000000 in
theorem l_sameI (A : Option Addr) (n c : Nat) (B : Option Addr) (m d : Nat) (X : List Int) (w : World) (hL : Ints w w.heap.size A n X) (hM : Ints w w.heap.size B m X) (hn : n ≤ maxLen) :
    Calls Try.prog 35 #[.slice A n c, .slice B m d] w fun e w' => e = .returned (.bool true) ∧ ∃ q, w' = w.drewN q := by
  unfold maxLen at hn
  have hnm : n = m := hL.1.symm.trans hM.1
  subst hnm
  have hl := hide hL.1
  have HL := hide hL
  have HM := hide hM
  clear hL hM
  go_enter Try.func35, Try.ntmps35
  go_wp2_with fail
  go_loopw [5] (fun i wr => ∃ k q : Nat, k ≤ n ∧ i = .int .i64 k ∧ wr = w.drewN q) (fun i _ => n - (intOf i).toNat)
  case atStart => exact ⟨0, 0, Nat.zero_le _, rfl, rfl⟩
  case round =>
    obtain ⟨k, q, hk, rfl, rfl⟩ := hrel
    by_cases hlt : k < n
    · obtain ⟨a, ha⟩ : ∃ a, X[k]? = some a := ⟨X[k]'(by have := hl.out; omega), List.getElem?_eq_getElem _⟩
      obtain ⟨g, off, rfl, hg, hc⟩ := HL.out.at' ha
      obtain ⟨g2, off2, rfl, hg2, hd⟩ := HM.out.at' ha
      skip
      clear ha
      go_wp2_with fail
      go_quiet (fail)
      go_wp2_with fail
      go_roundw
      case rel => exact ⟨k + 1, _, by omega, by go_num, by first | rfl | exact World.drewN_drewN _ _ _⟩
      case measure => simp [intOf]; omega
    · go_wp2_with fail
      go_ret
      exact ⟨rfl, _, rfl⟩

end Go.Proofs.Ytimpmlmkhjeajaa

/- Accounts in memory of the call's own. -/
set_option linter.unusedVariables false
namespace Go.Proofs.Ytimpmlmkhjeajaa
open Go.RowKit

theorem str_info' : (Try.prog.info? 9).map (fun i => (i.zero, i.size, i.bytes)) = some (some (.string ByteArray.empty), 1, 16) := by kernel_rfl
theorem acc_info : (Try.prog.info? 79).map (fun i => (i.zero, i.size, i.bytes)) = some (some (.agg #[.string ByteArray.empty, .slice none 0 0]), 2, 40) := by kernel_rfl

/-- The cells xs read as accounts, their followers in blocks of which ok speaks. -/
def RdA (w : World) (ok : Nat → Prop) (xs : List Value) (X : List Acc) : Prop :=
  xs.length = X.length * 2 ∧ ∀ j a, X[j]? = some a → xs[j * 2]? = some (.string a.1) ∧ ∃ u, xs[j * 2 + 1]? = some u ∧ Fls w ok u a.2
section
variable {w w' : World} {ok ok' : Nat → Prop} {xs : List Value} {X : List Acc} {u v : Value} {F : List ByteArray} {nm : ByteArray} {base n : Nat}
theorem RdA.nil : RdA w ok [] [] := ⟨rfl, fun j a h => by simp at h⟩
theorem RdA.keep (h : RdA w ok xs X) (hk : ∀ p : Addr, ok p.block → w'.cell? p = w.cell? p) : RdA w' ok xs X :=
  ⟨h.1, fun j a ha => by obtain ⟨h1, u, h2, h3⟩ := h.2 j a ha; exact ⟨h1, u, h2, h3.keep hk⟩⟩
theorem RdA.more (h : RdA w ok xs X) (hk : ∀ g, ok g → ok' g) : RdA w ok' xs X :=
  ⟨h.1, fun j a ha => by obtain ⟨h1, u, h2, h3⟩ := h.2 j a ha; exact ⟨h1, u, h2, h3.more hk⟩⟩
theorem RdA.snoc (h : RdA w ok xs X) (hu : Fls w ok u F) : RdA w ok (xs ++ [.string nm, u]) (X ++ [(nm, F)]) := by
  refine ⟨by rw [List.length_append, List.length_append, h.1]; simp; omega, fun j a ha => ?_⟩
  rcases Nat.lt_or_ge j X.length with hj | hj
  · rw [List.getElem?_append_left hj] at ha
    obtain ⟨h1, u', h2, h3⟩ := h.2 j a ha
    exact ⟨by rw [List.getElem?_append_left (by rw [h.1]; omega)]; exact h1, u', by rw [List.getElem?_append_left (by rw [h.1]; omega)]; exact h2, h3⟩
  · have hjl : j < (X ++ [(nm, F)]).length := (List.getElem?_eq_some_iff.1 ha).1
    have e : j = X.length := by simp at hjl; omega
    subst e
    rw [List.getElem?_append_right (Nat.le_refl _), Nat.sub_self] at ha
    cases ha
    refine ⟨by rw [List.getElem?_append_right (by rw [h.1]; omega), h.1, Nat.sub_self]; rfl, u, ?_, hu⟩
    rw [List.getElem?_append_right (by rw [h.1]; omega), h.1, show X.length * 2 + 1 - X.length * 2 = 1 by omega]; rfl
theorem RdA.set0 {a : Acc} (h : RdA w ok xs (a :: X)) (hu : Fls w ok u F) : RdA w ok (xs.set 1 u) ((a.1, F) :: X) := by
  refine ⟨by rw [List.length_set, h.1]; rfl, fun j b hb => ?_⟩
  rcases j with _ | j
  · cases hb
    obtain ⟨h1, u', h2, h3⟩ := h.2 0 a rfl
    refine ⟨by rw [List.getElem?_set_ne (by omega)]; exact h1, u, ?_, hu⟩
    show (xs.set 1 u)[1]? = _
    rw [List.getElem?_set_self (by have := h.1; simp at this; omega)]
  · obtain ⟨h1, u', h2, h3⟩ := h.2 (j + 1) b hb
    exact ⟨by rw [List.getElem?_set_ne (by omega)]; exact h1, u', by rw [List.getElem?_set_ne (by omega)]; exact h2, h3⟩
theorem Fls.of_own (h : w.ownsRow base 9 1 v n (F.map Value.string)) : Fls w (fun b => base ≤ b ∧ b < w.heap.size ∧ v.ownBlock = some b) v F := by
  have h1 := h.1
  rw [List.length_map, Nat.mul_one] at h1
  rcases h.2 with ⟨rfl, rfl⟩ | ⟨g, cap, cur, rfl, hg, hb, hn, hc, _⟩
  · exact ⟨none, 0, 0, rfl, Nat.le_refl _, Nat.zero_le _, h1, fun hn => absurd hn (by omega)⟩
  · refine ⟨_, _, _, rfl, hn, Nat.le_trans hn hc, h1, fun h0 => ⟨g, 0, rfl, ⟨hg, (h.lt g rfl).2, rfl⟩, fun j s hs => ?_⟩⟩
    have hj : j < n := by have := (List.getElem?_eq_some_iff.1 hs).1; omega
    rw [Nat.zero_add, h.cellAt j (by omega), List.getElem?_map, hs]; rfl

/-- Accounts in memory of the call's own: a row, and followers in other blocks. -/
def OwnA (base : Nat) (w : World) (v : Value) (X : List Acc) : Prop :=
  ∃ A n c xs, v = .slice A n c ∧ w.ownsRow base 79 2 v n xs ∧ RdA w (fun b => base ≤ b ∧ b < w.heap.size ∧ v.ownBlock ≠ some b) xs X
theorem OwnA.nil (base : Nat) (w : World) : OwnA base w (.slice none 0 0) [] := ⟨none, 0, 0, [], rfl, World.ownsRow_nil _ _ _ _, RdA.nil⟩
theorem OwnA.kept (h : OwnA base w v X) {row : Option Nat} (hg : w.grownBy w' row) (hb : ∀ g, base ≤ g → row ≠ some g) : OwnA base w' v X := by
  obtain ⟨A, n, c, xs, e, h1, h2⟩ := h
  refine ⟨A, n, c, xs, e, h1.kept hg ?_, (h2.keep fun p hp => ?_).more fun g hg' => ⟨hg'.1, by have := hg.size; omega, hg'.2.2⟩⟩
  · cases ho : v.ownBlock with
    | none => exact .inl rfl
    | some g => exact .inr (fun e => hb g (h1.lt g ho).1 e.symm)
  · exact World.cell?_of_block (hg.block _ hp.2.1 (fun e => hb _ hp.1 e.symm))
theorem OwnA.but {g : Nat} (h : OwnA base w v X) (hb : But w.heap.size g w w') (hg : g < base) : OwnA base w' v X :=
  h.kept hb.grown (fun k hk e => by injection e; omega)
theorem OwnA.below (h : OwnA base w v X) (hb : Below w.heap.size w w') : OwnA base w' v X := h.kept (grown_of_below hb (row := none)) (fun _ _ e => by cases e)
theorem OwnA.len (h : OwnA base w v X) : ∃ A c, v = .slice A X.length c ∧ X.length ≤ c ∧ c ≤ maxLen := by
  obtain ⟨A, n, c, xs, rfl, h1, h2⟩ := h
  have e1 := h1.1
  have e2 := h2.1
  have : n = X.length := by omega
  subst this
  exact ⟨A, c, rfl, (own_cap h1).1, (own_cap h1).2⟩
theorem OwnA.accs (h : OwnA base w v X) : ∃ A n c, v = .slice A n c ∧ n ≤ c ∧ c ≤ maxLen ∧ Accs w w.heap.size A n X ∧ AccsP w (base ≤ ·) A n X := by
  obtain ⟨A, n, c, xs, rfl, h1, h2⟩ := h
  have e1 := h1.1
  have e2 := h2.1
  have key : AccsP w (fun b => base ≤ b ∧ b < w.heap.size) A n X := by
    refine ⟨by omega, fun hn => ?_⟩
    obtain ⟨g, cap, hv, hg, hlt⟩ := h1.form hn
    injection hv with hA hn' hc
    subst hA hc
    refine ⟨g, 0, rfl, ⟨hg, hlt⟩, fun j a ha => ?_⟩
    obtain ⟨h3, u, h4, h5⟩ := h2.2 j a ha
    have hj : j < X.length := (List.getElem?_eq_some_iff.1 ha).1
    refine ⟨?_, u, ?_, h5.more fun b hb => ⟨hb.1, hb.2.1⟩⟩
    · rw [Nat.zero_add, h1.cellAt (j * 2) (by omega)]; exact h3
    · rw [Nat.zero_add, h1.cellAt (j * 2 + 1) (by omega)]; exact h4
  exact ⟨A, n, c, rfl, (own_cap h1).1, (own_cap h1).2, key.more fun b hb => hb.2, key.more fun b hb => hb.1⟩
end
end Go.Proofs.Ytimpmlmkhjeajaa

/- The book of accounts: a map of the call's own, from names to slices of names. -/
set_option linter.unusedVariables false
namespace Go.Proofs.Ytimpmlmkhjeajaa
open Go.RowKit Go.Maps Go.MapKept Go.ChangeMaps

/-- How an element reads: as itself. -/
def Rv (v : Value) : Option (DataW Value × List MemPlace) := some (.held v, [])
theorem keyT : Keyed Try.prog 9 := string_keyed Try.underlying9
def kl (s : ByteArray) : Go.Lit := .string s.data.toList
theorem kl_inj {s t : ByteArray} (h : kl s = kl t) : s = t := by
  unfold kl at h
  injection h with h
  cases s; cases t
  exact congrArg ByteArray.mk (Array.toList_inj.1 h)
theorem kl_key (s : ByteArray) : WideAt.IsKeyLit (kl s) := trivial
theorem keyOf_s {s : ByteArray} (hs : s.size ≤ maxLen) : keyOf Try.prog 9 (.string s) = some (kl s) := WideMaps.keyOf_string_mk Try.underlying9 hs

/-- Block b is a map that reads as the accounts M, the followers' slices in blocks of which ok speaks. -/
def Book (w : World) (ok : Nat → Prop) (b n : Nat) (M : List Acc) : Prop :=
  ∃ D : DataW Value, w.ownsMap Try.prog 9 Rv b n D ∧ Tidy D ∧ (∀ s, has D (kl s) = memB (nms M) s) ∧ (∀ s, s ∈ nms M → ∃ v, (∀ z, D.atKey (kl s) z = .held v) ∧ Fls w ok v (fol M s))
section
variable {w w' : World} {ok ok' : Nat → Prop} {b n : Nat} {M : List Acc}
theorem Book.keep {row : Option Nat} (h : Book w ok b n M) (hg : w.grownBy w' row) (hne : some b ≠ row) (hk : ∀ p : Addr, ok p.block → w'.cell? p = w.cell? p) : Book w' ok b n M := by
  obtain ⟨D, h1, h2, h3, h4⟩ := h
  exact ⟨D, h1.kept hg hne, h2, h3, fun s hs => by obtain ⟨v, g1, g2⟩ := h4 s hs; exact ⟨v, g1, g2.keep hk⟩⟩
theorem Book.more (h : Book w ok b n M) (hk : ∀ g, ok g → ok' g) : Book w ok' b n M := by
  obtain ⟨D, h1, h2, h3, h4⟩ := h
  exact ⟨D, h1, h2, h3, fun s hs => by obtain ⟨v, g1, g2⟩ := h4 s hs; exact ⟨v, g1, g2.more hk⟩⟩
theorem Book.lt (h : Book w ok b n M) : b < w.heap.size := by obtain ⟨D, h1, _⟩ := h; exact h1.lt
theorem Book.made (w : World) (ok : Nat → Prop) : Book (w.alloc (.map #[] 0)) ok w.heap.size 0 [] :=
  ⟨_, World.ownsMap_made _ _ _ _, tidy_empty, fun s => rfl, fun s hs => by simp [nms] at hs⟩
theorem Fls.nilv : Fls w ok (.slice none 0 0) [] := ⟨none, 0, 0, rfl, Nat.le_refl _, Nat.zero_le _, rfl, fun h => absurd h (by omega)⟩

theorem fol_snoc {M : List Acc} {s t : ByteArray} {F : List ByteArray} (hs : s ∉ nms M) : fol (M ++ [(s, F)]) t = if s = t then F else fol M t := by
  unfold fol
  rw [List.find?_append]
  by_cases e : s = t
  · subst e
    have : M.find? (fun a => decide (a.1 = s)) = none := by
      rw [List.find?_eq_none]
      intro a ha
      have : a.1 ≠ s := fun e => hs (e ▸ List.mem_map_of_mem ha)
      simpa using this
    rw [this]; simp
  · rw [if_neg e]
    cases M.find? (fun a => decide (a.1 = t)) <;> simp [e]
/-- m[s] = v for a new name. -/
theorem Book.snoc {M : List Acc} {D : DataW Value} {s : ByteArray} {v : Value} {F : List ByteArray} (h2 : Tidy D) (h3 : ∀ s, has D (kl s) = memB (nms M) s) (h4 : ∀ s, s ∈ nms M → ∃ v, (∀ z, D.atKey (kl s) z = .held v) ∧ Fls w ok v (fol M s))
    (hs : s ∉ nms M) (hv : Fls w' ok v F) (hk : ∀ p : Addr, ok p.block → w'.cell? p = w.cell? p) (h1 : w'.ownsMap Try.prog 9 Rv b n (D.put (kl s) (.held v))) : Book w' ok b n (M ++ [(s, F)]) := by
  have hn : nms (M ++ [(s, F)]) = nms M ++ [s] := by unfold nms; simp
  refine ⟨_, h1, h2.put (kl_key s) _, fun t => ?_, fun t ht => ?_⟩
  · rw [hn]
    by_cases e : t = s
    · subst e; rw [has_put_same h2.isMap (kl_key t), memB_t (by simp)]
    · rw [has_put_other (fun h => e (kl_inj h)), h3 t]
      unfold memB; simp [show ¬ s = t from fun h => e h.symm]
  · rw [fol_snoc hs]
    by_cases e : s = t
    · subst e; rw [if_pos rfl]; exact ⟨v, fun z => atKey_put_same h2.isMap (kl_key s) _ _, hv⟩
    · rw [if_neg e]
      have ht' : t ∈ nms M := by
        rw [hn, List.mem_append] at ht
        rcases ht with h | h
        · exact h
        · exact absurd (List.mem_singleton.1 h).symm e
      obtain ⟨v', g1, g2⟩ := h4 t ht'
      exact ⟨v', fun z => by rw [atKey_put_other (fun h => e (kl_inj h).symm)]; exact g1 z, g2.keep hk⟩
theorem fol_setF {M : List Acc} {s t : ByteArray} {F : List ByteArray} (h : s ∈ nms M) : fol (setF M s F) t = if s = t then F else fol M t := by
  induction M with
  | nil => simp [nms] at h
  | cons a M ih =>
    unfold fol setF
    rw [List.map_cons, List.find?_cons, List.find?_cons]
    by_cases e : s = t
    · subst e
      rw [if_pos rfl]
      by_cases ea : a.1 = s
      · simp [ea]
      · have hs : s ∈ nms M := by
          unfold nms at h ⊢
          rcases List.mem_cons.1 h with h | h
          · exact absurd h.symm ea
          · exact h
        have := ih hs
        rw [if_pos rfl] at this
        simp only [ea, if_false]
        simpa [fol, setF, ea] using this
    · rw [if_neg e]
      by_cases ea : a.1 = s
      · have hat : ¬ a.1 = t := fun h => e (ea.symm.trans h)
        simp only [ea, if_true]
        have hst : decide (s = t) = false := by simp [e]
        rw [hst]
        simp only
        by_cases hs : s ∈ nms M
        · have := ih hs
          rw [if_neg e] at this
          simpa [fol, setF] using this
        · have hM : M.map (fun a => if a.1 = s then (a.1, F) else a) = M := by
            have : ∀ a ∈ M, (if a.1 = s then (a.1, F) else a) = a := fun a ha => by
              exact if_neg (fun h => hs (by rw [← h]; exact List.mem_map_of_mem ha))
            rw [List.map_congr_left this, List.map_id']
          rw [hM]
      · simp only [ea, if_false]
        by_cases hat : a.1 = t
        · simp [hat]
        · have hs : s ∈ nms M := by
            unfold nms at h ⊢
            rcases List.mem_cons.1 h with h | h
            · exact absurd h.symm ea
            · exact h
          have := ih hs
          rw [if_neg e] at this
          have hst : decide (a.1 = t) = false := by simp [hat]
          rw [hst]
          simpa [fol, setF] using this
/-- m[s] = v for a name that is there. -/
theorem Book.set {M : List Acc} {D : DataW Value} {s : ByteArray} {v : Value} {F : List ByteArray} (h2 : Tidy D) (h3 : ∀ s, has D (kl s) = memB (nms M) s) (h4 : ∀ s, s ∈ nms M → ∃ v, (∀ z, D.atKey (kl s) z = .held v) ∧ Fls w ok v (fol M s))
    (hs : s ∈ nms M) (hv : Fls w' ok v F) (hk : ∀ p : Addr, ok p.block → w'.cell? p = w.cell? p) (h1 : w'.ownsMap Try.prog 9 Rv b n (D.put (kl s) (.held v))) : Book w' ok b n (setF M s F) := by
  refine ⟨_, h1, h2.put (kl_key s) _, fun t => ?_, fun t ht => ?_⟩
  · rw [setF_nms]
    by_cases e : t = s
    · subst e; rw [has_put_same h2.isMap (kl_key t), memB_t hs]
    · rw [has_put_other (fun h => e (kl_inj h)), h3 t]
  · rw [setF_nms] at ht
    rw [fol_setF hs]
    by_cases e : s = t
    · subst e; rw [if_pos rfl]; exact ⟨v, fun z => atKey_put_same h2.isMap (kl_key s) _ _, hv⟩
    · rw [if_neg e]
      obtain ⟨v', g1, g2⟩ := h4 t ht
      exact ⟨v', fun z => by rw [atKey_put_other (fun h => e (kl_inj h).symm)]; exact g1 z, g2.keep hk⟩

theorem zeroN (w : World) : (zeroValue 86).run Try.prog w = .ok (.slice none 0 0) w := by kernel_rfl
/-- m[s]. -/
theorem Book.look (h : Book w ok b n M) {s : ByteArray} (hs : s.size ≤ maxLen) : ∃ v, (Instr.lookup 83 (.map (some b)) (.string s) false).run Try.prog w = .ok v w ∧ Fls w ok v (fol M s) := by
  obtain ⟨D, h1, h2, h3, h4⟩ := h
  obtain ⟨v, ps, hrun, hv⟩ := h1.lookup keyT Try.underlying83 (zeroN w) (zd := .held (.slice none 0 0)) (zp := []) rfl (keyOf_s hs)
  refine ⟨v, hrun, ?_⟩
  unfold Rv at hv
  injection hv with hv
  injection hv with hv _
  by_cases hm : s ∈ nms M
  · obtain ⟨v', g1, g2⟩ := h4 s hm
    rw [g1] at hv
    injection hv with hv
    rw [hv]; exact g2
  · have hh : has D (kl s) = false := by rw [h3 s]; exact memB_f hm
    rw [atKey_of_not_has hh] at hv
    injection hv with hv
    rw [hv, fol_none hm]
    exact Fls.nilv
/-- v, ok := m[s]. -/
theorem Book.look2 (h : Book w ok b n M) {s : ByteArray} (hs : s.size ≤ maxLen) : ∃ v, (Instr.lookup 83 (.map (some b)) (.string s) true).run Try.prog w = .ok (.tuple #[v, .bool (memB (nms M) s)]) w ∧ Fls w ok v (fol M s) := by
  obtain ⟨D, ⟨es, clock, hb, F, hsz, hD⟩, h2, h3, h4⟩ := h
  rcases Maps.fit_look true keyT Try.underlying83 (zeroN w) hb F (keyOf_s hs) with ⟨hrun, _, hat⟩ | ⟨e0, y, _, _, hrun, hR, hat, _⟩
  · rw [← hD] at hat
    have hh : has D (kl s) = false := has_false_of_atKey hat
    rw [h3 s] at hh
    refine ⟨_, by rw [hh]; exact hrun, ?_⟩
    rw [fol_none (fun hm => by rw [memB_t hm] at hh; cases hh)]
    exact Fls.nilv
  · rw [← hD] at hat
    have hh : has D (kl s) = true := has_true_of_atKey hat
    rw [h3 s] at hh
    obtain ⟨v', g1, g2⟩ := h4 s (memB_iff.1 hh)
    refine ⟨e0.val, by rw [hh]; exact hrun, ?_⟩
    have e1 := (g1 (.held undef)).symm.trans (hat (.held undef))
    unfold Rv at hR
    injection hR with hR
    rw [← hR] at e1
    injection e1 with e1
    rw [← e1]; exact g2
end
end Go.Proofs.Ytimpmlmkhjeajaa
