/- Accounts in memory of the call's own. -/
import Derived.Test.YtohodhogbdcdmabAw
set_option linter.unusedVariables false
namespace Go.Proofs.Ytohodhogbdcdmab
open Go.RowKit

theorem str_info' : (Try.prog.info? 9).map (fun i => (i.zero, i.size, i.bytes)) = some (some (.string ByteArray.empty), 1, 16) := by kernel_rfl
theorem acc_info : (Try.prog.info? 31).map (fun i => (i.zero, i.size, i.bytes)) = some (some (.agg #[.string ByteArray.empty, .slice none 0 0]), 2, 40) := by kernel_rfl

/-- The cells xs read as accounts, their followers in blocks of which ok speaks. -/
def RdA (w : World) (ok : Nat → Prop) (xs : List Value) (X : List Acc) : Prop :=
  xs.length = X.length * 2 ∧ ∀ j a, X[j]? = some a → xs[j * 2]? = some (.string a.1) ∧ ∃ u, xs[j * 2 + 1]? = some u ∧ Fls w ok u a.2
section
variable {w w' : World} {ok ok' : Nat → Prop} {xs : List Value} {X : List Acc} {u v : Value} {F : List ByteArray} {nm : ByteArray} {base n : Nat}
theorem RdA.nil : RdA w ok [] [] := ⟨rfl, fun j a h => by simp at h⟩
theorem RdA.keep (h : RdA w ok xs X) (hk : ∀ p : Addr, ok p.block → w'.cell? p = w.cell? p) : RdA w' ok xs X :=
  ⟨h.1, fun j a ha => by obtain ⟨h1, u, h2, h3⟩ := h.2 j a ha; exact ⟨h1, u, h2, h3.keep hk⟩⟩
theorem RdA.more (h : RdA w ok xs X) (hk : ∀ g, ok g → ok' g) : RdA w ok' xs X :=
  ⟨h.1, fun j a ha => by obtain ⟨h1, u, h2, h3⟩ := h.2 j a ha; exact ⟨h1, u, h2, h3.more hk⟩⟩
theorem RdA.snoc (h : RdA w ok xs X) (hu : Fls w ok u F) : RdA w ok (xs ++ [.string nm, u]) (X ++ [(nm, F)]) := by
  refine ⟨by rw [List.length_append, List.length_append, h.1]; simp; omega, fun j a ha => ?_⟩
  rcases Nat.lt_or_ge j X.length with hj | hj
  · rw [List.getElem?_append_left hj] at ha
    obtain ⟨h1, u', h2, h3⟩ := h.2 j a ha
    exact ⟨by rw [List.getElem?_append_left (by rw [h.1]; omega)]; exact h1, u', by rw [List.getElem?_append_left (by rw [h.1]; omega)]; exact h2, h3⟩
  · have hjl : j < (X ++ [(nm, F)]).length := (List.getElem?_eq_some_iff.1 ha).1
    have e : j = X.length := by simp at hjl; omega
    subst e
    rw [List.getElem?_append_right (Nat.le_refl _), Nat.sub_self] at ha
    cases ha
    refine ⟨by rw [List.getElem?_append_right (by rw [h.1]; omega), h.1, Nat.sub_self]; rfl, u, ?_, hu⟩
    rw [List.getElem?_append_right (by rw [h.1]; omega), h.1, show X.length * 2 + 1 - X.length * 2 = 1 by omega]; rfl
theorem RdA.set0 {a : Acc} (h : RdA w ok xs (a :: X)) (hu : Fls w ok u F) : RdA w ok (xs.set 1 u) ((a.1, F) :: X) := by
  refine ⟨by rw [List.length_set, h.1]; rfl, fun j b hb => ?_⟩
  rcases j with _ | j
  · cases hb
    obtain ⟨h1, u', h2, h3⟩ := h.2 0 a rfl
    refine ⟨by rw [List.getElem?_set_ne (by omega)]; exact h1, u, ?_, hu⟩
    show (xs.set 1 u)[1]? = _
    rw [List.getElem?_set_self (by have := h.1; simp at this; omega)]
  · obtain ⟨h1, u', h2, h3⟩ := h.2 (j + 1) b hb
    exact ⟨by rw [List.getElem?_set_ne (by omega)]; exact h1, u', by rw [List.getElem?_set_ne (by omega)]; exact h2, h3⟩
theorem Fls.of_own (h : w.ownsRow base 9 1 v n (F.map Value.string)) : Fls w (fun b => base ≤ b ∧ b < w.heap.size ∧ v.ownBlock = some b) v F := by
  have h1 := h.1
  rw [List.length_map, Nat.mul_one] at h1
  rcases h.2 with ⟨rfl, rfl⟩ | ⟨g, cap, cur, rfl, hg, hb, hn, hc, _⟩
  · exact ⟨none, 0, 0, rfl, Nat.le_refl _, Nat.zero_le _, h1, fun hn => absurd hn (by omega)⟩
  · refine ⟨_, _, _, rfl, hn, Nat.le_trans hn hc, h1, fun h0 => ⟨g, 0, rfl, ⟨hg, (h.lt g rfl).2, rfl⟩, fun j s hs => ?_⟩⟩
    have hj : j < n := by have := (List.getElem?_eq_some_iff.1 hs).1; omega
    rw [Nat.zero_add, h.cellAt j (by omega), List.getElem?_map, hs]; rfl

/-- Accounts in memory of the call's own: a row, and followers in other blocks. -/
def OwnA (base : Nat) (w : World) (v : Value) (X : List Acc) : Prop :=
  ∃ A n c xs, v = .slice A n c ∧ w.ownsRow base 31 2 v n xs ∧ RdA w (fun b => base ≤ b ∧ b < w.heap.size ∧ v.ownBlock ≠ some b) xs X
theorem OwnA.nil (base : Nat) (w : World) : OwnA base w (.slice none 0 0) [] := ⟨none, 0, 0, [], rfl, World.ownsRow_nil _ _ _ _, RdA.nil⟩
theorem OwnA.kept (h : OwnA base w v X) {row : Option Nat} (hg : w.grownBy w' row) (hb : ∀ g, base ≤ g → row ≠ some g) : OwnA base w' v X := by
  obtain ⟨A, n, c, xs, e, h1, h2⟩ := h
  refine ⟨A, n, c, xs, e, h1.kept hg ?_, (h2.keep fun p hp => ?_).more fun g hg' => ⟨hg'.1, by have := hg.size; omega, hg'.2.2⟩⟩
  · cases ho : v.ownBlock with
    | none => exact .inl rfl
    | some g => exact .inr (fun e => hb g (h1.lt g ho).1 e.symm)
  · exact World.cell?_of_block (hg.block _ hp.2.1 (fun e => hb _ hp.1 e.symm))
theorem OwnA.but {g : Nat} (h : OwnA base w v X) (hb : But w.heap.size g w w') (hg : g < base) : OwnA base w' v X :=
  h.kept hb.grown (fun k hk e => by injection e; omega)
theorem OwnA.below (h : OwnA base w v X) (hb : Below w.heap.size w w') : OwnA base w' v X := h.kept (grown_of_below hb (row := none)) (fun _ _ e => by cases e)
theorem OwnA.len (h : OwnA base w v X) : ∃ A c, v = .slice A X.length c ∧ X.length ≤ c ∧ c ≤ maxLen := by
  obtain ⟨A, n, c, xs, rfl, h1, h2⟩ := h
  have e1 := h1.1
  have e2 := h2.1
  have : n = X.length := by omega
  subst this
  exact ⟨A, c, rfl, (own_cap h1).1, (own_cap h1).2⟩
theorem OwnA.accs (h : OwnA base w v X) : ∃ A n c, v = .slice A n c ∧ n ≤ c ∧ c ≤ maxLen ∧ Accs w w.heap.size A n X ∧ AccsP w (base ≤ ·) A n X := by
  obtain ⟨A, n, c, xs, rfl, h1, h2⟩ := h
  have e1 := h1.1
  have e2 := h2.1
  have key : AccsP w (fun b => base ≤ b ∧ b < w.heap.size) A n X := by
    refine ⟨by omega, fun hn => ?_⟩
    obtain ⟨g, cap, hv, hg, hlt⟩ := h1.form hn
    injection hv with hA hn' hc
    subst hA hc
    refine ⟨g, 0, rfl, ⟨hg, hlt⟩, fun j a ha => ?_⟩
    obtain ⟨h3, u, h4, h5⟩ := h2.2 j a ha
    have hj : j < X.length := (List.getElem?_eq_some_iff.1 ha).1
    refine ⟨?_, u, ?_, h5.more fun b hb => ⟨hb.1, hb.2.1⟩⟩
    · rw [Nat.zero_add, h1.cellAt (j * 2) (by omega)]; exact h3
    · rw [Nat.zero_add, h1.cellAt (j * 2 + 1) (by omega)]; exact h4
  exact ⟨A, n, c, rfl, (own_cap h1).1, (own_cap h1).2, key.more fun b hb => hb.2, key.more fun b hb => hb.1⟩
end
end Go.Proofs.Ytohodhogbdcdmab
