/- Accounts in memory of the call's own, each list of followers in a block of its own. -/
import Derived.Test.YtohodhogbdcdmabOwnA
import Derived.Test.YtohodhogbdcdmabEx2
set_option linter.unusedVariables false
set_option linter.unusedSimpArgs false
namespace Go.Proofs.Ytohodhogbdcdmab
open Go.RowKit

/-- An account and where its followers are. -/
abbrev AccV := ByteArray × List ByteArray × Value
def accsV (Y : List AccV) : List Acc := Y.map fun y => (y.1, y.2.1)
/-- The cells of accounts. -/
def vcells (Y : List AccV) : List Value := Y.flatMap fun y => [.string y.1, y.2.2]
theorem vcells_cons (y : AccV) (Y : List AccV) : vcells (y :: Y) = [.string y.1, y.2.2] ++ vcells Y := by simp [vcells]
theorem vcells_app (X Y : List AccV) : vcells (X ++ Y) = vcells X ++ vcells Y := by simp [vcells]
theorem vcells_len (Y : List AccV) : (vcells Y).length = Y.length * 2 := by
  induction Y with
  | nil => rfl
  | cons a X ih => rw [vcells_cons, List.length_append, ih]; simp; omega
theorem vcells_at : ∀ {X : List AccV} {j : Nat} {a : AccV}, X[j]? = some a → (vcells X)[j * 2]? = some (.string a.1) ∧ (vcells X)[j * 2 + 1]? = some a.2.2
  | [], j, a, h => by simp at h
  | b :: X, 0, a, h => by simp at h; subst h; rw [vcells_cons]; simp
  | b :: X, j + 1, a, h => by
    have h' : X[j]? = some a := by simpa using h
    obtain ⟨h1, h2⟩ := vcells_at h'
    rw [vcells_cons]
    refine ⟨?_, ?_⟩
    · rw [List.getElem?_append_right (by simp; omega), show (j + 1) * 2 - [Value.string b.1, b.2.2].length = j * 2 by simp; omega]; exact h1
    · rw [List.getElem?_append_right (by simp; omega), show (j + 1) * 2 + 1 - [Value.string b.1, b.2.2].length = j * 2 + 1 by simp; omega]; exact h2
theorem vcells_set0 : ∀ {X : List AccV} {k : Nat} {a : AccV} (s : ByteArray), X[k]? = some a → (vcells X).set (k * 2) (.string s) = vcells (X.set k (s, a.2))
  | [], k, a, v, h => by simp at h
  | b :: X, 0, a, v, h => by simp at h; subst h; rw [vcells_cons, List.set_cons_zero, vcells_cons]; rfl
  | b :: X, k + 1, a, v, h => by
    have h' : X[k]? = some a := by simpa using h
    rw [vcells_cons, List.set_cons_succ, vcells_cons, ← vcells_set0 v h', show (k + 1) * 2 = k * 2 + 1 + 1 by omega]
    rfl
theorem accsV_len (Y : List AccV) : (accsV Y).length = Y.length := List.length_map _
theorem accsV_at {Y : List AccV} {k : Nat} {a : Acc} (h : (accsV Y)[k]? = some a) : ∃ u, Y[k]? = some (a.1, a.2, u) := by
  unfold accsV at h
  rw [List.getElem?_map, Option.map_eq_some_iff] at h
  obtain ⟨⟨n, F, u⟩, h1, rfl⟩ := h
  exact ⟨u, h1⟩

/-- The blocks of such a list. -/
def VBlk (v : Value) (Y : List AccV) (b : Nat) : Prop := v.ownBlock = some b ∨ ∃ y ∈ Y, y.2.2.ownBlock = some b
/-- .. the row, the followers; blocks differ. -/
structure NestY (base : Nat) (w : World) (A : Option Addr) (n c : Nat) (Y : List AccV) : Prop where
  row : w.ownsRow base 31 2 (.slice A n c) n (vcells Y)
  fol : ∀ y ∈ Y, w.ownsRow base 9 1 y.2.2 y.2.1.length (y.2.1.map Value.string)
  far : ∀ y ∈ Y, ∀ b, y.2.2.ownBlock = some b → (Value.slice A n c).ownBlock ≠ some b
  two : Y.Pairwise fun y z => ∀ b, y.2.2.ownBlock = some b → z.2.2.ownBlock ≠ some b
def Nest (base : Nat) (w : World) (A : Option Addr) (n c : Nat) (X : List Acc) : Prop := ∃ Y, accsV Y = X ∧ NestY base w A n c Y
section
variable {base : Nat} {w w' : World} {A : Option Addr} {n c : Nat} {Y : List AccV} {X : List Acc}
theorem NestY.len (h : NestY base w A n c Y) : Y.length = n := by have := h.row.1; rw [vcells_len] at this; omega
theorem NestY.lt (h : NestY base w A n c Y) {b : Nat} (hb : VBlk (.slice A n c) Y b) : base ≤ b ∧ b < w.heap.size := by
  rcases hb with hb | ⟨y, hy, hb⟩
  · exact h.row.lt b hb
  · exact (h.fol y hy).lt b hb
/-- Kept where none of its blocks is touched. -/
theorem NestY.kept (h : NestY base w A n c Y) (hos : w'.os = w.os) (htp : w'.tape = w.tape) (hout : w'.output = w.output) (hs : w.heap.size ≤ w'.heap.size) (hk : ∀ b, VBlk (.slice A n c) Y b → w'.heap[b]? = w.heap[b]?) : NestY base w' A n c Y := by
  have key : ∀ {e : TypeId} {size m : Nat} {v : Value} {xs : List Value}, w.ownsRow base e size v m xs → (∀ b, v.ownBlock = some b → w'.heap[b]? = w.heap[b]?) → w'.ownsRow base e size v m xs := by
    intro e size m v xs ho hb
    refine ⟨ho.1, ?_⟩
    rcases ho.2 with h | ⟨g, cap, cur, e1, e2, e3, e4⟩
    · exact .inl h
    · exact .inr ⟨g, cap, cur, e1, e2, by rw [hb g (by rw [e1]; rfl)]; exact e3, e4⟩
  exact ⟨key h.row fun b hb => hk b (.inl hb), fun y hy => key (h.fol y hy) fun b hb => hk b (.inr ⟨y, hy, hb⟩), h.far, h.two⟩
theorem NestY.below (h : NestY base w A n c Y) (hb : Below w.heap.size w w') : NestY base w' A n c Y :=
  h.kept hb.os hb.tape hb.output hb.size fun b hb' => hb.block b (h.lt hb').2
theorem NestY.accs (h : NestY base w A n c Y) : Accs w w.heap.size A n (accsV Y) := by
  refine ⟨by rw [accsV_len, h.len], fun hn => ?_⟩
  obtain ⟨g, cap, hv, hg, hlt⟩ := h.row.form hn
  injection hv with hA _ hc
  subst hA hc
  refine ⟨g, 0, rfl, hlt, fun j a ha => ?_⟩
  obtain ⟨u, hu⟩ := accsV_at ha
  have hj : j < n := by have := (List.getElem?_eq_some_iff.1 hu).1; have := h.len; omega
  have hp := vcells_at hu
  refine ⟨by rw [Nat.zero_add, h.row.cellAt (j * 2) (by omega)]; exact hp.1, u, by rw [Nat.zero_add, h.row.cellAt (j * 2 + 1) (by omega)]; exact hp.2, ?_⟩
  exact (Fls.of_own (h.fol _ (List.mem_of_getElem? hu))).more fun b hb => hb.2.1
end
/-- All blocks but those from base on below top are as they were. -/
structure Mid (base top : Nat) (w w' : World) : Prop where
  os : w'.os = w.os
  tape : w'.tape = w.tape
  output : w'.output = w.output
  size : w.heap.size ≤ w'.heap.size
  block : ∀ k, k < w.heap.size → (k < base ∨ top ≤ k) → w'.heap[k]? = w.heap[k]?
theorem Mid.refl (base top : Nat) (w : World) : Mid base top w w := ⟨rfl, rfl, rfl, Nat.le_refl _, fun _ _ _ => rfl⟩
theorem Mid.trans {base top : Nat} {a b c : World} (h : Mid base top a b) (k : Mid base top b c) : Mid base top a c :=
  ⟨k.os.trans h.os, k.tape.trans h.tape, k.output.trans h.output, Nat.le_trans h.size k.size, fun i hi hn => (k.block i (Nat.lt_of_lt_of_le hi h.size) hn).trans (h.block i hi hn)⟩
theorem Mid.of_below {base top : Nat} {a b : World} (h : Below a.heap.size a b) : Mid base top a b := ⟨h.os, h.tape, h.output, h.size, fun i hi _ => h.block i hi⟩
theorem Mid.of_grown {base top : Nat} {a b : World} {row : Option Nat} (h : a.grownBy b row) (hr : ∀ g, row = some g → base ≤ g ∧ g < top) : Mid base top a b :=
  ⟨h.os, h.tape, h.output, h.size, fun i hi hn => h.block i hi (fun e => by have := hr i e.symm; omega)⟩
theorem Mid.below {base top B : Nat} {w a b : World} (h : Mid base top a b) (hw : Below B w a) (hB : B ≤ base) (hs : B ≤ a.heap.size) : Below B w b :=
  hw.trans ⟨h.os, h.tape, h.output, h.size, fun k hk => h.block k (by omega) (.inl (by omega))⟩
theorem Mid.nest {base top base' : Nat} {a b : World} {A : Option Addr} {n c : Nat} {Y : List AccV} (h : Mid base top a b) (hY : NestY base' a A n c Y) (ht : top ≤ base') : NestY base' b A n c Y :=
  hY.kept h.os h.tape h.output h.size fun k hk => h.block k (hY.lt hk).2 (.inr (by have := (hY.lt hk).1; omega))
theorem Mid.row {base top base' : Nat} {a b : World} {e : TypeId} {size m : Nat} {v : Value} {xs : List Value} (h : Mid base top a b) (ho : a.ownsRow base' e size v m xs) (ht : top ≤ base') : b.ownsRow base' e size v m xs := by
  refine ⟨ho.1, ?_⟩
  rcases ho.2 with h1 | ⟨g, cap, cur, e1, e2, e3, e4⟩
  · exact .inl h1
  · exact .inr ⟨g, cap, cur, e1, e2, by rw [h.block g ((ho.lt g (by rw [e1]; rfl)).2) (.inr (by omega))]; exact e3, e4⟩
end Go.Proofs.Ytohodhogbdcdmab
