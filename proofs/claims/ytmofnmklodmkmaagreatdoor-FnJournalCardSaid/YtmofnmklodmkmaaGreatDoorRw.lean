/- Words for records in memory. -/
import Derived.Test.YtmofnmklodmkmaaGreatDoorRo
import Derived.Test.YtmofnmklodmkmaaGreatDoorOwn
set_option linter.unusedVariables false
set_option linter.unusedSimpArgs false
namespace Go.Proofs.YtmofnmklodmkmaaGreatDoor
open Go.RowKit

/-- The cells of a record, of records. -/
def rvals (r : Rec) : List Value := [.int .i64 r.1, .int .i64 r.2.1, .int .i64 r.2.2.1, .string r.2.2.2.1, .string r.2.2.2.2]
def rcells (X : List Rec) : List Value := X.flatMap rvals
theorem rcells_nil : rcells [] = [] := rfl
theorem rcells_cons (a : Rec) (X : List Rec) : rcells (a :: X) = rvals a ++ rcells X := by simp [rcells]
theorem rcells_app (X Y : List Rec) : rcells (X ++ Y) = rcells X ++ rcells Y := by simp [rcells]
theorem rcells_len (X : List Rec) : (rcells X).length = X.length * 5 := by
  induction X with
  | nil => rfl
  | cons a X ih => rw [rcells_cons, List.length_append, ih]; simp [rvals]; omega
theorem rcells_at : ∀ {X : List Rec} {j q : Nat} {a : Rec}, X[j]? = some a → q < 5 → (rcells X)[j * 5 + q]? = (rvals a)[q]?
  | [], j, q, a, h, _ => by simp at h
  | b :: X, 0, q, a, h, hq => by
    simp at h
    subst h
    rw [rcells_cons, Nat.zero_mul, Nat.zero_add, List.getElem?_append_left (by simp [rvals]; omega)]
  | b :: X, j + 1, q, a, h, hq => by
    have h' : X[j]? = some a := by simpa using h
    rw [rcells_cons, List.getElem?_append_right (by simp [rvals]; omega), show (j + 1) * 5 + q - (rvals b).length = j * 5 + q by simp [rvals]; omega]
    exact rcells_at h' hq
theorem rcells_one (X : List Rec) : ∀ u ∈ rcells X, u.oneCell' = true := by
  intro u hu
  obtain ⟨a, _, h⟩ := List.mem_flatMap.1 hu
  simp [rvals] at h
  rcases h with rfl | rfl | rfl | rfl | rfl <;> rfl
theorem rcells_take (X : List Rec) (k : Nat) : (rcells X).take (k * 5) = rcells (X.take k) := by
  have e := rcells_app (X.take k) (X.drop k)
  rw [List.take_append_drop] at e
  rcases Nat.lt_or_ge X.length k with h | h
  · rw [List.take_of_length_le (by rw [rcells_len]; omega), List.take_of_length_le (by omega)]
  · rw [e, List.take_append_of_le_length (by rw [rcells_len, List.length_take]; omega), List.take_of_length_le (by rw [rcells_len, List.length_take]; omega)]

/-- The five cells of a record at a place. -/
def Rc5 (w : World) (g o : Nat) (r : Rec) : Prop := w.cell? ⟨g, o, none⟩ = some (.int .i64 r.1) ∧ w.cell? ⟨g, o + 1, none⟩ = some (.int .i64 r.2.1) ∧ w.cell? ⟨g, o + 2, none⟩ = some (.int .i64 r.2.2.1) ∧ w.cell? ⟨g, o + 3, none⟩ = some (.string r.2.2.2.1) ∧ w.cell? ⟨g, o + 4, none⟩ = some (.string r.2.2.2.2)
theorem Rc5.keep {w w' : World} {g o : Nat} {r : Rec} (h : Rc5 w g o r) (hk : ∀ q, w'.cell? ⟨g, q, none⟩ = w.cell? ⟨g, q, none⟩) : Rc5 w' g o r :=
  ⟨(hk _).trans h.1, (hk _).trans h.2.1, (hk _).trans h.2.2.1, (hk _).trans h.2.2.2.1, (hk _).trans h.2.2.2.2⟩
/-- A slice of records. -/
def Rcs (w : World) (B : Nat) (A : Option Addr) (n : Nat) (X : List Rec) : Prop :=
  X.length = n ∧ (0 < n → ∃ g off, A = some ⟨g, off, none⟩ ∧ g < B ∧ ∀ j a, X[j]? = some a → Rc5 w g (off + j * 5) a)
/-- The names are short. -/
def RSmall (X : List Rec) : Prop := ∀ a ∈ X, a.2.2.2.1.size ≤ maxLen ∧ a.2.2.2.2.size ≤ maxLen
section
variable {w w' : World} {B B' n : Nat} {A : Option Addr} {X : List Rec}
theorem Rcs.keep (h : Rcs w B A n X) (hk : ∀ p : Addr, p.block < B → w'.cell? p = w.cell? p) : Rcs w' B A n X :=
  ⟨h.1, fun hn => by
    obtain ⟨g, off, e, hb, hc⟩ := h.2 hn
    exact ⟨g, off, e, hb, fun j a ha => (hc j a ha).keep fun q => hk ⟨g, q, none⟩ hb⟩⟩
theorem Rcs.more (h : Rcs w B A n X) (hB : B ≤ B') : Rcs w B' A n X :=
  ⟨h.1, fun hn => by
    obtain ⟨g, off, e, hb, hc⟩ := h.2 hn
    exact ⟨g, off, e, by omega, hc⟩⟩
theorem Rcs.below (h : Rcs w B A n X) (hb : Below B w w') : Rcs w' B A n X := h.keep fun _ hp => hb.cell hp
theorem Rcs.drewN (h : Rcs w B A n X) (k : Nat) : Rcs (w.drewN k) B A n X := h
theorem Rcs.alloc (h : Rcs w B A n X) (hB : B ≤ w.heap.size) (o : Obj) : Rcs (w.alloc o) B A n X := h.below ((Below.refl B w).alloc hB o)
theorem Rcs.on (h : Rcs w w.heap.size A n X) (hb : Below w.heap.size w w') : Rcs w' w'.heap.size A n X := (h.below hb).more hb.size
theorem Rcs.at' (h : Rcs w B A n X) {j : Nat} {a : Rec} (ha : X[j]? = some a) : ∃ g off, A = some ⟨g, off, none⟩ ∧ g < B ∧ Rc5 w g (off + j * 5) a := by
  obtain ⟨g, off, e, hb, hc⟩ := h.2 (by have := (List.getElem?_eq_some_iff.1 ha).1; have := h.1; omega)
  exact ⟨g, off, e, hb, hc j a ha⟩
theorem Rcs.less (h : Rcs w B A n X) {k : Nat} (hk : k ≤ n) : Rcs w B A k (X.take k) :=
  ⟨by rw [List.length_take, h.1]; omega, fun hk0 => by
    obtain ⟨g, off, e, hb, hc⟩ := h.2 (by omega)
    refine ⟨g, off, e, hb, fun j a ha => hc j a ?_⟩
    have hj := (List.getElem?_eq_some_iff.1 ha).1
    rw [List.length_take] at hj
    rw [List.getElem?_take_of_lt (by omega)] at ha
    exact ha⟩
theorem Rcs.of_rd (h : Rd w B 5 A n (rcells X)) : Rcs w B A n X :=
  ⟨by have := h.1; rw [rcells_len] at this; omega, fun hn => by
    obtain ⟨g, off, e, hb, hc⟩ := h.2 hn
    refine ⟨g, off, e, hb, fun j a ha => ?_⟩
    have hp := fun q hq => rcells_at (q := q) ha hq
    refine ⟨?_, ?_, ?_, ?_, ?_⟩
    · exact hc (j * 5) _ ((hp 0 (by omega)).trans rfl)
    · rw [Nat.add_assoc]; exact hc (j * 5 + 1) _ ((hp 1 (by omega)).trans rfl)
    · rw [Nat.add_assoc]; exact hc (j * 5 + 2) _ ((hp 2 (by omega)).trans rfl)
    · rw [Nat.add_assoc]; exact hc (j * 5 + 3) _ ((hp 3 (by omega)).trans rfl)
    · rw [Nat.add_assoc]; exact hc (j * 5 + 4) _ ((hp 4 (by omega)).trans rfl)⟩
theorem Rcs.rd (h : Rcs w B A n X) : Rd w B 5 A n (rcells X) :=
  ⟨by rw [rcells_len, h.1], fun hn => by
    obtain ⟨g, off, e, hb, hc⟩ := h.2 hn
    refine ⟨g, off, e, hb, fun j u hu => ?_⟩
    have hj := (List.getElem?_eq_some_iff.1 hu).1
    rw [rcells_len] at hj
    obtain ⟨a, ha⟩ : ∃ a, X[j / 5]? = some a := ⟨X[j / 5]'(by omega), List.getElem?_eq_getElem _⟩
    obtain ⟨p, q, hq, rfl⟩ : ∃ p q, q < 5 ∧ j = p * 5 + q := ⟨j / 5, j % 5, Nat.mod_lt _ (by omega), by omega⟩
    rw [show (p * 5 + q) / 5 = p by omega] at ha
    have hc' := hc _ a ha
    rw [rcells_at ha hq] at hu
    rw [← Nat.add_assoc]
    match q, hq, hu with
    | 0, _, hu => cases hu; exact hc'.1
    | 1, _, hu => cases hu; exact hc'.2.1
    | 2, _, hu => cases hu; exact hc'.2.2.1
    | 3, _, hu => cases hu; exact hc'.2.2.2.1
    | 4, _, hu => cases hu; exact hc'.2.2.2.2⟩
theorem Rcs.of_own {base c : Nat} {e : TypeId} (h : w.ownsRow base e 5 (.slice A n c) n (rcells X)) : Rcs w w.heap.size A n X := Rcs.of_rd (Rd.of_own h)
end
/-- Records in memory of the call's own. -/
def OwnR (base : Nat) (w : World) (v : Value) (X : List Rec) : Prop := ∃ A n c, v = .slice A n c ∧ w.ownsRow base 28 5 (.slice A n c) n (rcells X)
section
variable {w w' : World} {base n : Nat} {v : Value} {X : List Rec}
theorem OwnR.mk' {m : Nat} {xs : List Value} (h : w.ownsRow base 28 5 v m xs) (e : xs = rcells X) : OwnR base w v X := by
  subst e
  obtain ⟨A, c, rfl⟩ := row_slice h
  exact ⟨_, _, _, rfl, h⟩
theorem OwnR.nil (base : Nat) (w : World) : OwnR base w (.slice none 0 0) [] := ⟨none, 0, 0, rfl, World.ownsRow_nil _ _ _ _⟩
theorem OwnR.rcs (h : OwnR base w v X) : ∃ A n c, v = .slice A n c ∧ X.length = n ∧ n ≤ c ∧ c ≤ maxLen ∧ Rcs w w.heap.size A n X := by
  obtain ⟨A, n, c, rfl, h1⟩ := h
  exact ⟨A, n, c, rfl, (Rcs.of_own h1).1, (own_cap h1).1, (own_cap h1).2, Rcs.of_own h1⟩
end
end Go.Proofs.YtmofnmklodmkmaaGreatDoor
