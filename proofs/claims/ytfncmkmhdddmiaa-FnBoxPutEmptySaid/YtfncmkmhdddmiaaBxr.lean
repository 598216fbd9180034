/- Boxes as a row of cells. -/
import Derived.Test.YtfncmkmhdddmiaaBxw
set_option linter.unusedVariables false
set_option linter.unusedSimpArgs false
namespace Go.Proofs.Ytfncmkmhdddmiaa
open Go.RowKit

theorem nat_mod (m n : Nat) (hn : 0 < n) : ∃ k : Nat, (m : Int) % (n : Int) = k ∧ (m : Int).tmod n = k ∧ k < n :=
  ⟨m % n, by rw [Int.natCast_emod], by rw [Int.natCast_emod]; exact Int.tmod_eq_emod_of_nonneg (by omega), Nat.mod_lt _ hn⟩
theorem b40 {m : Nat} (h : m ≤ 100) : m ≤ maxLen ∧ m * 40 ≤ 140737488355328 := ⟨by unfold maxLen; omega, Nat.le_trans (Nat.mul_le_mul_right 40 h) (by decide)⟩
theorem wcells_take (X : List BxV) (k : Nat) : (wcells X).take (k * 2) = wcells (X.take k) := by
  have e := wcells_app (X.take k) (X.drop k)
  rw [List.take_append_drop] at e
  rcases Nat.lt_or_ge X.length k with h | h
  · rw [List.take_of_length_le (by rw [wcells_len]; omega), List.take_of_length_le (by omega)]
  · rw [e, List.take_append_of_le_length (by rw [wcells_len, List.length_take]; omega), List.take_of_length_le (by rw [wcells_len, List.length_take]; omega)]
theorem wcells_drop (X : List BxV) (k : Nat) : (wcells X).drop (k * 2) = wcells (X.drop k) := by
  have e := wcells_app (X.take k) (X.drop k)
  rw [List.take_append_drop] at e
  rcases Nat.lt_or_ge X.length k with h | h
  · rw [List.drop_of_length_le (by rw [wcells_len]; omega), List.drop_of_length_le (by omega)]; rfl
  · rw [e, List.drop_append_of_le_length (by rw [wcells_len, List.length_take]; omega), List.drop_of_length_le (by rw [wcells_len, List.length_take]; omega)]; rfl
theorem bxV_take (Y : List BxV) (k : Nat) : bxV (Y.take k) = (bxV Y).take k := List.map_take
theorem bxV_drop (Y : List BxV) (k : Nat) : bxV (Y.drop k) = (bxV Y).drop k := List.map_drop

/-- A row of boxes: the cells as read, and each one's numbers. -/
def RdB (w : World) (B : Nat) (A : Option Addr) (n : Nat) (Y : List BxV) : Prop := Rd w B 2 A n (wcells Y) ∧ ∀ y ∈ Y, Fli w (· < B) y.2.2 y.2.1
/-- The numbers alone. -/
def FlB (w : World) (B : Nat) (Y : List BxV) : Prop := ∀ y ∈ Y, Fli w (· < B) y.2.2 y.2.1
section
variable {w w' : World} {A : Option Addr} {n B B' : Nat} {X : List Bx} {Y Z : List BxV}
theorem FlB.below (h : FlB w B Y) (hb : Below B w w') : FlB w' B Y := fun y hy => (h y hy).keep fun _ hp => hb.cell hp
theorem FlB.more (h : FlB w B Y) (hB : B ≤ B') : FlB w B' Y := fun y hy => (h y hy).more fun _ hg => Nat.lt_of_lt_of_le hg hB
theorem FlB.take (h : FlB w B Y) (k : Nat) : FlB w B (Y.take k) := fun y hy => h y (List.mem_of_mem_take hy)
theorem FlB.drop (h : FlB w B Y) (k : Nat) : FlB w B (Y.drop k) := fun y hy => h y (List.mem_of_mem_drop hy)
theorem FlB.app (h : FlB w B Y) (h2 : FlB w B Z) : FlB w B (Y ++ Z) := fun y hy => (List.mem_append.1 hy).elim (h y) (h2 y)
theorem FlB.one (h : FlB w B Y) : ∀ u ∈ wcells Y, u.oneCell' = true := by
  intro u hu
  obtain ⟨a, ha, h1⟩ := List.mem_flatMap.1 hu
  simp at h1
  rcases h1 with rfl | rfl
  · rfl
  · obtain ⟨A, n, c, e, _⟩ := h a ha
    rw [e]; rfl
theorem BxsP.rdB (h : Bxs w B A n X) : ∃ Y, bxV Y = X ∧ Rd w B 2 A n (wcells Y) ∧ FlB w B Y := by
  rcases Nat.eq_zero_or_pos n with h0 | h0
  · subst h0
    obtain rfl : X = [] := List.eq_nil_of_length_eq_zero h.1
    exact ⟨[], rfl, Rd.nil, fun y hy => by cases hy⟩
  · obtain ⟨g, off, e, hb, hc⟩ := h.2 h0
    have hat : ∀ j, (X.mapIdx fun j a => ((a.1, a.2, (w.cell? ⟨g, off + j * 2 + 1, none⟩).getD undef) : BxV))[j]? = (X[j]?).map fun a => (a.1, a.2, (w.cell? ⟨g, off + j * 2 + 1, none⟩).getD undef) := fun j => List.getElem?_mapIdx
    refine ⟨X.mapIdx fun j a => (a.1, a.2, (w.cell? ⟨g, off + j * 2 + 1, none⟩).getD undef), ?_, ?_, ?_⟩
    · refine List.ext_getElem? fun j => ?_
      unfold bxV
      rw [List.getElem?_map, hat]
      cases X[j]? <;> rfl
    · refine ⟨by rw [wcells_len, List.length_mapIdx, h.1], fun _ => ⟨g, off, e, hb, fun j u hu => ?_⟩⟩
      have hj := (List.getElem?_eq_some_iff.1 hu).1
      rw [wcells_len, List.length_mapIdx] at hj
      obtain ⟨q, hq⟩ : ∃ q, q = j / 2 := ⟨_, rfl⟩
      obtain ⟨a, ha⟩ : ∃ a, X[q]? = some a := ⟨X[q]'(by omega), List.getElem?_eq_getElem _⟩
      have hy := hat q
      rw [ha] at hy
      have hp := wcells_at hy
      obtain ⟨c0, u', c1, _⟩ := hc _ a ha
      rcases Nat.mod_two_eq_zero_or_one j with e0 | e0
      · obtain rfl : j = q * 2 := by omega
        rw [hp.1] at hu; cases hu; exact c0
      · obtain rfl : j = q * 2 + 1 := by omega
        rw [hp.2] at hu; cases hu; rw [← Nat.add_assoc]
        rw [c1]; rfl
    · intro y hy
      obtain ⟨j, hj⟩ := List.mem_iff_getElem?.1 hy
      rw [hat] at hj
      obtain ⟨a, ha, rfl⟩ := Option.map_eq_some_iff.1 hj
      obtain ⟨c0, u', c1, hf⟩ := hc _ a ha
      rw [c1]
      exact hf
theorem BxsP.of_rdB (h : Rd w B 2 A n (wcells Y)) (hf : FlB w B Y) : Bxs w B A n (bxV Y) :=
  ⟨by have := h.1; rw [wcells_len] at this; rw [bxV_len]; omega, fun hn => by
    obtain ⟨g, off, e, hb, hc⟩ := h.2 hn
    refine ⟨g, off, e, hb, fun j a ha => ?_⟩
    obtain ⟨u, hu⟩ := bxV_at ha
    have hp := wcells_at hu
    exact ⟨hc _ _ hp.1, u, by rw [Nat.add_assoc]; exact hc _ _ hp.2, hf _ (List.mem_of_getElem? hu)⟩⟩
end
end Go.Proofs.Ytfncmkmhdddmiaa
