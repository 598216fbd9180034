/- Words for posts in memory. -/
import Derived.Test.YtfncmkmhdddmiabPst
import Derived.Test.YtfncmkmhdddmiabOwn
import Derived.Test.YtfncmkmhdddmiabIw
set_option linter.unusedVariables false
set_option linter.unusedSimpArgs false
namespace Go.Proofs.Ytfncmkmhdddmiab
open Go.RowKit

theorem post_info : (Try.prog.info? 31).map (fun i => (i.zero, i.size, i.bytes)) = some (some (.agg #[.int .i64 0, .string ByteArray.empty]), 2, 24) := by kernel_rfl

/-- The cells of posts. -/
def pcells (X : List Pst) : List Value := X.flatMap fun a => [.int .i64 a.1, .string a.2]
theorem pcells_nil : pcells [] = [] := rfl
theorem pcells_cons (a : Pst) (X : List Pst) : pcells (a :: X) = [.int .i64 a.1, .string a.2] ++ pcells X := by simp [pcells]
theorem pcells_app (X Y : List Pst) : pcells (X ++ Y) = pcells X ++ pcells Y := by simp [pcells]
theorem pcells_len (X : List Pst) : (pcells X).length = X.length * 2 := by
  induction X with
  | nil => rfl
  | cons a X ih => rw [pcells_cons, List.length_append, ih]; simp; omega
theorem pcells_at : ∀ {X : List Pst} {j : Nat} {a : Pst}, X[j]? = some a → (pcells X)[j * 2]? = some (.int .i64 a.1) ∧ (pcells X)[j * 2 + 1]? = some (.string a.2)
  | [], j, a, h => by simp at h
  | b :: X, 0, a, h => by simp at h; subst h; rw [pcells_cons]; simp
  | b :: X, j + 1, a, h => by
    have h' : X[j]? = some a := by simpa using h
    obtain ⟨h1, h2⟩ := pcells_at h'
    rw [pcells_cons]
    refine ⟨?_, ?_⟩
    · rw [List.getElem?_append_right (by simp; omega), show (j + 1) * 2 - [Value.int .i64 b.1, Value.string b.2].length = j * 2 by simp; omega]; exact h1
    · rw [List.getElem?_append_right (by simp; omega), show (j + 1) * 2 + 1 - [Value.int .i64 b.1, Value.string b.2].length = j * 2 + 1 by simp; omega]; exact h2
theorem pcells_one (X : List Pst) : ∀ u ∈ pcells X, u.oneCell' = true := by
  intro u hu
  obtain ⟨a, _, h⟩ := List.mem_flatMap.1 hu
  simp at h
  rcases h with rfl | rfl <;> rfl
theorem pcells_take (X : List Pst) (k : Nat) : (pcells X).take (k * 2) = pcells (X.take k) := by
  have e := pcells_app (X.take k) (X.drop k)
  rw [List.take_append_drop] at e
  rcases Nat.lt_or_ge X.length k with h | h
  · rw [List.take_of_length_le (by rw [pcells_len]; omega), List.take_of_length_le (by omega)]
  · rw [e, List.take_append_of_le_length (by rw [pcells_len, List.length_take]; omega), List.take_of_length_le (by rw [pcells_len, List.length_take]; omega)]
theorem pcells_drop (X : List Pst) (k : Nat) : (pcells X).drop (k * 2) = pcells (X.drop k) := by
  have e := pcells_app (X.take k) (X.drop k)
  rw [List.take_append_drop] at e
  rcases Nat.lt_or_ge X.length k with h | h
  · rw [List.drop_of_length_le (by rw [pcells_len]; omega), List.drop_of_length_le (by omega)]; rfl
  · rw [e, List.drop_append_of_le_length (by rw [pcells_len, List.length_take]; omega), List.drop_of_length_le (by rw [pcells_len, List.length_take]; omega)]; rfl

/-- A slice of posts. -/
def Psts (w : World) (B : Nat) (A : Option Addr) (n : Nat) (X : List Pst) : Prop :=
  X.length = n ∧ (0 < n → ∃ g off, A = some ⟨g, off, none⟩ ∧ g < B ∧ ∀ j a, X[j]? = some a → w.cell? ⟨g, off + j * 2, none⟩ = some (.int .i64 a.1) ∧ w.cell? ⟨g, off + j * 2 + 1, none⟩ = some (.string a.2))
/-- The authors are short. -/
def PSmall (X : List Pst) : Prop := ∀ a ∈ X, a.2.size ≤ maxLen
section
variable {w w' : World} {B B' n : Nat} {A : Option Addr} {X : List Pst}
theorem Psts.keep (h : Psts w B A n X) (hk : ∀ p : Addr, p.block < B → w'.cell? p = w.cell? p) : Psts w' B A n X :=
  ⟨h.1, fun hn => by
    obtain ⟨g, off, e, hb, hc⟩ := h.2 hn
    exact ⟨g, off, e, hb, fun j a ha => ⟨(hk ⟨g, off + j * 2, none⟩ hb).trans (hc j a ha).1, (hk ⟨g, off + j * 2 + 1, none⟩ hb).trans (hc j a ha).2⟩⟩⟩
theorem Psts.more (h : Psts w B A n X) (hB : B ≤ B') : Psts w B' A n X :=
  ⟨h.1, fun hn => by
    obtain ⟨g, off, e, hb, hc⟩ := h.2 hn
    exact ⟨g, off, e, by omega, hc⟩⟩
theorem Psts.below (h : Psts w B A n X) (hb : Below B w w') : Psts w' B A n X := h.keep fun _ hp => hb.cell hp
theorem Psts.drewN (h : Psts w B A n X) (k : Nat) : Psts (w.drewN k) B A n X := h
theorem Psts.alloc (h : Psts w B A n X) (hB : B ≤ w.heap.size) (o : Obj) : Psts (w.alloc o) B A n X := h.below ((Below.refl B w).alloc hB o)
theorem Psts.on (h : Psts w w.heap.size A n X) (hb : Below w.heap.size w w') : Psts w' w'.heap.size A n X := (h.below hb).more hb.size
theorem Psts.at' (h : Psts w B A n X) {j : Nat} {a : Pst} (ha : X[j]? = some a) : ∃ g off, A = some ⟨g, off, none⟩ ∧ g < B ∧ w.cell? ⟨g, off + j * 2, none⟩ = some (.int .i64 a.1) ∧ w.cell? ⟨g, off + j * 2 + 1, none⟩ = some (.string a.2) := by
  obtain ⟨g, off, e, hb, hc⟩ := h.2 (by have := (List.getElem?_eq_some_iff.1 ha).1; have := h.1; omega)
  exact ⟨g, off, e, hb, hc j a ha⟩
theorem Psts.rd (h : Psts w B A n X) : Rd w B 2 A n (pcells X) :=
  ⟨by rw [pcells_len, h.1], fun hn => by
    obtain ⟨g, off, e, hb, hc⟩ := h.2 hn
    refine ⟨g, off, e, hb, fun j u hu => ?_⟩
    have hj := (List.getElem?_eq_some_iff.1 hu).1
    rw [pcells_len] at hj
    obtain ⟨q, hq⟩ : ∃ q, q = j / 2 := ⟨_, rfl⟩
    obtain ⟨a, ha⟩ : ∃ a, X[q]? = some a := ⟨X[q]'(by omega), List.getElem?_eq_getElem _⟩
    have hp := pcells_at ha
    have hc' := hc _ a ha
    rcases Nat.mod_two_eq_zero_or_one j with e0 | e0
    · obtain rfl : j = q * 2 := by omega
      rw [hp.1] at hu; cases hu; exact hc'.1
    · obtain rfl : j = q * 2 + 1 := by omega
      rw [hp.2] at hu; cases hu; rw [← Nat.add_assoc]; exact hc'.2⟩
theorem Psts.of_rd (h : Rd w B 2 A n (pcells X)) : Psts w B A n X :=
  ⟨by have := h.1; rw [pcells_len] at this; omega, fun hn => by
    obtain ⟨g, off, e, hb, hc⟩ := h.2 hn
    refine ⟨g, off, e, hb, fun j a ha => ?_⟩
    have hp := pcells_at ha
    exact ⟨hc _ _ hp.1, by rw [Nat.add_assoc]; exact hc _ _ hp.2⟩⟩
theorem Psts.of_own {base c : Nat} {e : TypeId} (h : w.ownsRow base e 2 (.slice A n c) n (pcells X)) : Psts w w.heap.size A n X := Psts.of_rd (Rd.of_own h)
end
/-- Posts in memory of the call's own. -/
def OwnP (base : Nat) (w : World) (v : Value) (X : List Pst) : Prop := ∃ A n c, v = .slice A n c ∧ w.ownsRow base 31 2 (.slice A n c) n (pcells X)
section
variable {w w' : World} {base n : Nat} {v : Value} {X : List Pst}
theorem OwnP.mk' {m : Nat} {xs : List Value} (h : w.ownsRow base 31 2 v m xs) (e : xs = pcells X) : OwnP base w v X := by
  subst e
  obtain ⟨A, c, rfl⟩ := own_slice h
  exact ⟨_, _, _, rfl, h⟩
theorem OwnP.nil (base : Nat) (w : World) : OwnP base w (.slice none 0 0) [] := ⟨none, 0, 0, rfl, World.ownsRow_nil _ _ _ _⟩
theorem OwnP.kept (h : OwnP base w v X) {row : Option Nat} (hg : w.grownBy w' row) (hb : ∀ g, base ≤ g → row ≠ some g) : OwnP base w' v X := by
  obtain ⟨A, n, c, rfl, h1⟩ := h
  refine ⟨A, n, c, rfl, h1.kept hg ?_⟩
  cases ho : (Value.slice A n c).ownBlock with
  | none => exact .inl rfl
  | some g => exact .inr (fun e => hb g (h1.lt g ho).1 e.symm)
theorem OwnP.but {g : Nat} (h : OwnP base w v X) (hb : But w.heap.size g w w') (hg : g < base) : OwnP base w' v X := h.kept hb.grown (fun k hk e => by injection e; omega)
theorem OwnP.below (h : OwnP base w v X) (hb : Below w.heap.size w w') : OwnP base w' v X := h.kept (grown_of_below hb (row := none)) (fun _ _ e => by cases e)
theorem OwnP.psts (h : OwnP base w v X) : ∃ A n c, v = .slice A n c ∧ X.length = n ∧ n ≤ c ∧ c ≤ maxLen ∧ Psts w w.heap.size A n X := by
  obtain ⟨A, n, c, rfl, h1⟩ := h
  exact ⟨A, n, c, rfl, (Psts.of_own h1).1, (own_cap h1).1, (own_cap h1).2, Psts.of_own h1⟩
end
/-- A function hands back posts of its own; nothing that was there has turned. -/
def Own1P (w : World) (X : List Pst) (e : Ending) (w' : World) : Prop := ∃ v, e = .returned v ∧ OwnP w.heap.size w' v X ∧ Below w.heap.size w w'
/-- .. with the number, and whether it succeeds. -/
def Own2P (w : World) (X : List Pst) (o : Option (List Pst)) (e : Ending) (w' : World) : Prop := ∃ v, e = .returned (.tuple #[v, .int .i64 (if o.isSome = true then nextI X else 0), .bool o.isSome]) ∧ OwnP w.heap.size w' v (o.getD []) ∧ Below w.heap.size w w'

theorem own2_psts {w w' : World} {X : List Pst} {o : Option (List Pst)} {e : Ending} (h : Own2P w X o e w') : ∃ A n c z, e = .returned (.tuple #[.slice A n c, .int .i64 z, .bool o.isSome]) ∧ Hid (z = if o.isSome = true then nextI X else 0) ∧ n ≤ c ∧ c ≤ maxLen ∧ Psts w' w'.heap.size A n (o.getD []) ∧ Below w.heap.size w w' := by
  obtain ⟨v, rfl, hO, hb⟩ := h
  obtain ⟨A, n, c, rfl, _, h1, h2, h3⟩ := hO.psts
  exact ⟨A, n, c, _, rfl, rfl, h1, h2, h3, hb⟩

/-- A linked list of posts in blocks of which ok speaks, the last one first. -/
def Chain (w : World) (ok : Nat → Prop) : Value → List Pst → Prop
  | v, [] => v = .pointer none
  | v, a :: R => ∃ g q, v = .pointer (some ⟨g, 0, none⟩) ∧ ok g ∧ w.cell? ⟨g, 0, none⟩ = some (.int .i64 a.1) ∧ w.cell? ⟨g, 1, none⟩ = some (.string a.2) ∧ w.cell? ⟨g, 2, none⟩ = some q ∧ Chain w ok q R
theorem Chain.keep {w w' : World} {ok : Nat → Prop} (hk : ∀ p : Addr, ok p.block → w'.cell? p = w.cell? p) : ∀ {R : List Pst} {v : Value}, Chain w ok v R → Chain w' ok v R
  | [], _, h => h
  | a :: R, _, ⟨g, q, e, hg, h1, h2, h3, h4⟩ => ⟨g, q, e, hg, (hk ⟨g, 0, none⟩ hg).trans h1, (hk ⟨g, 1, none⟩ hg).trans h2, (hk ⟨g, 2, none⟩ hg).trans h3, h4.keep hk⟩
theorem Chain.more {w : World} {ok ok' : Nat → Prop} (hk : ∀ g, ok g → ok' g) : ∀ {R : List Pst} {v : Value}, Chain w ok v R → Chain w ok' v R
  | [], _, h => h
  | a :: R, _, ⟨g, q, e, hg, h1, h2, h3, h4⟩ => ⟨g, q, e, hk g hg, h1, h2, h3, h4.more hk⟩
end Go.Proofs.Ytfncmkmhdddmiab
