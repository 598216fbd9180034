/- Words for accounts in memory: no program. -/
import Derived.Test.YtohodhogbdcdmabAcc
import Derived.Test.YtohodhogbdcdmabOwn
set_option linter.unusedVariables false
namespace Go.Proofs.Ytohodhogbdcdmab
open Go.RowKit

/-- A slice of strings in blocks of which ok speaks. -/
def Fls (w : World) (ok : Nat → Prop) (u : Value) (F : List ByteArray) : Prop :=
  ∃ A n c, u = .slice A n c ∧ n ≤ c ∧ n ≤ maxLen ∧ F.length = n ∧ (0 < n → ∃ g off, A = some ⟨g, off, none⟩ ∧ ok g ∧ ∀ j s, F[j]? = some s → w.cell? ⟨g, off + j, none⟩ = some (.string s))
/-- A slice of accounts in such blocks. -/
def AccsP (w : World) (ok : Nat → Prop) (A : Option Addr) (n : Nat) (X : List Acc) : Prop :=
  X.length = n ∧ (0 < n → ∃ g off, A = some ⟨g, off, none⟩ ∧ ok g ∧ ∀ j a, X[j]? = some a → w.cell? ⟨g, off + j * 2, none⟩ = some (.string a.1) ∧ ∃ u, w.cell? ⟨g, off + j * 2 + 1, none⟩ = some u ∧ Fls w ok u a.2)
/-- .. below block B. -/
abbrev Accs (w : World) (B : Nat) (A : Option Addr) (n : Nat) (X : List Acc) : Prop := AccsP w (· < B) A n X
/-- The names and the followers are short. -/
def ASmall (X : List Acc) : Prop := ∀ a ∈ X, a.1.size ≤ maxLen ∧ ∀ s ∈ a.2, s.size ≤ maxLen
section
variable {w w' : World} {ok ok' : Nat → Prop} {u : Value} {F : List ByteArray} {A : Option Addr} {n B B' : Nat} {X : List Acc}
theorem Fls.keep (h : Fls w ok u F) (hk : ∀ p : Addr, ok p.block → w'.cell? p = w.cell? p) : Fls w' ok u F := by
  obtain ⟨A, n, c, e, h1, h2, h3, h4⟩ := h
  refine ⟨A, n, c, e, h1, h2, h3, fun hn => ?_⟩
  obtain ⟨g, off, e, hb, hc⟩ := h4 hn
  exact ⟨g, off, e, hb, fun j s hs => (hk ⟨g, off + j, none⟩ hb).trans (hc j s hs)⟩
theorem Fls.more (h : Fls w ok u F) (hk : ∀ g, ok g → ok' g) : Fls w ok' u F := by
  obtain ⟨A, n, c, e, h1, h2, h3, h4⟩ := h
  refine ⟨A, n, c, e, h1, h2, h3, fun hn => ?_⟩
  obtain ⟨g, off, e, hb, hc⟩ := h4 hn
  exact ⟨g, off, e, hk g hb, hc⟩
theorem Fls.open (h : Fls w (· < B) u F) : ∃ A n c, u = .slice A n c ∧ n ≤ c ∧ n ≤ maxLen ∧ Strs w B A n F := h.elim fun A ⟨n, c, e, h1, h2, h3, h4⟩ => ⟨A, n, c, e, h1, h2, h3, h4⟩
theorem AccsP.keep (h : AccsP w ok A n X) (hk : ∀ p : Addr, ok p.block → w'.cell? p = w.cell? p) : AccsP w' ok A n X :=
  ⟨h.1, fun hn => by
    obtain ⟨g, off, e, hb, hc⟩ := h.2 hn
    refine ⟨g, off, e, hb, fun j a ha => ?_⟩
    obtain ⟨h1, u, h2, h3⟩ := hc j a ha
    exact ⟨(hk ⟨g, off + j * 2, none⟩ hb).trans h1, u, (hk ⟨g, off + j * 2 + 1, none⟩ hb).trans h2, h3.keep hk⟩⟩
theorem AccsP.more (h : AccsP w ok A n X) (hk : ∀ g, ok g → ok' g) : AccsP w ok' A n X :=
  ⟨h.1, fun hn => by
    obtain ⟨g, off, e, hb, hc⟩ := h.2 hn
    refine ⟨g, off, e, hk g hb, fun j a ha => ?_⟩
    obtain ⟨h1, u, h2, h3⟩ := hc j a ha
    exact ⟨h1, u, h2, h3.more hk⟩⟩
theorem AccsP.below (h : Accs w B A n X) (hb : Below B w w') : Accs w' B A n X := h.keep fun _ hp => hb.cell hp
theorem AccsP.drewN (h : AccsP w ok A n X) (k : Nat) : AccsP (w.drewN k) ok A n X := h
theorem AccsP.up (h : Accs w B A n X) (hB : B ≤ B') : Accs w B' A n X := h.more fun _ hg => Nat.lt_of_lt_of_le hg hB
theorem AccsP.alloc (h : Accs w B A n X) (hB : B ≤ w.heap.size) (o : Obj) : Accs (w.alloc o) B A n X := h.below ((Below.refl B w).alloc hB o)
/-- Carried over a call, and read as of the new world. -/
theorem AccsP.on (h : Accs w w.heap.size A n X) (hb : Below w.heap.size w w') : Accs w' w'.heap.size A n X := (h.below hb).up hb.size
theorem Strs.on {L : List ByteArray} (h : Strs w w.heap.size A n L) (hb : Below w.heap.size w w') : Strs w' w'.heap.size A n L := (h.below hb).more hb.size
end
end Go.Proofs.Ytohodhogbdcdmab
