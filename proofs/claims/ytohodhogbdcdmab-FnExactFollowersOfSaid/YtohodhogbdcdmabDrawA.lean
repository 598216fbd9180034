/- Drawing accounts: l91Accounts. -/
import Derived.Test.YtohodhogbdcdmabOwnA
import Derived.Deep.RegionLaw
import Derived.Deep.DeepMust
import Derived.Outline
set_option linter.unusedVariables false
set_option linter.unusedSimpArgs false
namespace Go.Proofs.Ytohodhogbdcdmab
open Go.RowKit

def tinyStr : Value → Bool
  | .string s => decide (s.size ≤ 3)
  | _ => false
theorem tinyStr_of {v : Value} (h : tinyStr v = true) : ∃ s : ByteArray, s.size ≤ 3 ∧ v = .string s := by
  cases v <;> simp [tinyStr] at h
  exact ⟨_, h, rfl⟩
/-- Block b holds N strings of at most three letters. -/
def Lit3 (w : World) (b N : Nat) : Prop := ∃ cs : Array Value, Blk w b 9 cs ∧ cs.size = N ∧ cs.toList.all tinyStr = true
theorem Lit3.cell {w : World} {b N k : Nat} (h : Lit3 w b N) (hk : k < N) : ∃ s : ByteArray, s.size ≤ 3 ∧ w.cell? ⟨b, k, none⟩ = some (.string s) := by
  obtain ⟨cs, hb, hn, ha⟩ := h
  obtain ⟨s, h5, hs⟩ := tinyStr_of (List.all_eq_true.1 ha (cs[k]'(by omega)) (by simp))
  exact ⟨s, h5, by rw [hb.cell, Array.getElem?_eq_getElem (by omega), hs]⟩
theorem Lit3.but {B b N g : Nat} {w w' : World} (h : Lit3 w b N) (hb : But B g w w') (hB : b < B) (hne : b ≠ g) : Lit3 w' b N := by
  obtain ⟨cs, h1, h2, h3⟩ := h
  exact ⟨cs, (hb.block b hB hne).trans h1, h2, h3⟩
theorem Lit3.alloc {b N : Nat} {w : World} (h : Lit3 w b N) (o : Obj) : Lit3 (w.alloc o) b N := by
  obtain ⟨cs, h1, h2, h3⟩ := h
  exact ⟨cs, h1.alloc o, h2, h3⟩

/-- What is drawn is small. -/
def ADrawn (M : Nat) (X : List Acc) : Prop := X.length ≤ M ∧ ∀ a ∈ X, a.1.size ≤ 3 ∧ Short 6 a.2
theorem ADrawn.snoc {M : Nat} {X : List Acc} {nm : ByteArray} {F : List ByteArray} (h : ADrawn M X) (hn : nm.size ≤ 3) (hF : Short 6 F) : ADrawn (M + 1) (X ++ [(nm, F)]) := by
  refine ⟨by have := h.1; simp; omega, fun a ha => ?_⟩
  rcases List.mem_append.1 ha with h1 | h1
  · exact h.2 a h1
  · rw [List.mem_singleton.1 h1]; exact ⟨hn, hF⟩
theorem ADrawn.more {M M' : Nat} {X : List Acc} (h : ADrawn M X) (hm : M ≤ M') : ADrawn M' X := ⟨by have := h.1; omega, h.2⟩
theorem ADrawn.small {M : Nat} {X : List Acc} (h : ADrawn M X) : ASmall X := fun a ha => by
  have h1 := h.2 a ha
  refine ⟨by have := h1.1; unfold maxLen; omega, fun s hs => by have := h1.2.2 s hs; unfold maxLen; omega⟩

abbrev tA : TypeId := 31
/-- The inner loop behind k rounds: w0 is the world ahead of the account, P its block. -/
def InnerAt (w0 : World) (g P : Nat) (nm : ByteArray) (p k : Nat) (wr : World) : Prop :=
  ∃ (fv : Value) (n : Nat) (F : List ByteArray) (p' : Nat), Blk wr P 31 #[.string nm, fv] ∧ wr.ownsRow w0.heap.size 9 1 fv n (F.map Value.string) ∧ fv.ownBlock ≠ some P ∧ Short k F ∧ p' ≤ p + k ∧ Rdr 77 wr g p' ∧ But w0.heap.size g w0 wr
/-- The outer loop behind k rounds: W is the world ahead of the call, B its size. -/
def OuterAt (W : World) (g p k : Nat) (v : Value) (wr : World) : Prop :=
  ∃ (X : List Acc) (p' : Nat), OwnA W.heap.size wr v X ∧ v.ownBlock ≠ some (W.heap.size + 1) ∧ ADrawn k X ∧ (0 < k → 0 < X.length) ∧ p' ≤ p + 7 * k ∧ Rdr 77 wr g p' ∧ But W.heap.size g W wr ∧ Lit3 wr (W.heap.size + 1) 6 ∧ W.heap.size + 1 < wr.heap.size

theorem inner_start {w0 : World} {g p : Nat} (nm : ByteArray) (hr : Rdr 77 w0 g p) (T : TypeId) (hT : T = 9) :
    InnerAt w0 g (w0.heap.size + 1) nm p 0 ((w0.alloc (.cells #[] T)).alloc (.cells #[.string nm, .slice (some ⟨w0.heap.size, 0, none⟩) 0 0] 31)) := by
  subst hT
  refine ⟨_, 0, [], p, ?_, (World.ownsRow_lit w0 #[] 0 (Nat.le_refl _) (Nat.zero_le _) rfl).alloc _, by simp [Value.ownBlock], ⟨by simp, by simp⟩, by omega, (hr.alloc _).alloc _, ?_⟩
  · have h := Blk.new (w0.alloc (.cells #[] 9)) 31 #[.string nm, .slice (some ⟨w0.heap.size, 0, none⟩) 0 0]
    rw [World.size_alloc] at h
    exact h
  · exact But.of_below (((Below.refl _ _).alloc (Nat.le_refl _) _).alloc (by simp) _)
theorem inner_step {w0 w1 w2 : World} {g P p p' k n : Nat} {nm s : ByteArray} {fv v : Value} {F : List ByteArray}
    (own : w2.ownsRow w0.heap.size 9 1 v (n + 1) (F.map Value.string ++ [Value.string s])) (gr : w1.grownBy w2 fv.ownBlock) (at2 : v.ownBlock = fv.ownBlock ∨ v.ownBlock = some w1.heap.size)
    (hfv : w1.ownsRow w0.heap.size 9 1 fv n (F.map Value.string)) (hP : Blk w1 P 31 #[.string nm, fv]) (hne : fv.ownBlock ≠ some P) (hsh : Short k F) (hs : s.size ≤ 5) (hr : Rdr 77 w1 g p') (hp : p' ≤ p + (k + 1)) (hb : But w0.heap.size g w0 w1) (hg : g < w0.heap.size) (hP0 : w0.heap.size ≤ P) :
    InnerAt w0 g P nm p (k + 1) (w2.setCell ⟨P, 1, none⟩ v) := by
  have hP2 : Blk w2 P _ _ := hP.grown gr (fun e => hne e.symm)
  have hvP : v.ownBlock ≠ some P := by
    rcases at2 with e | e
    · rw [e]; exact hne
    · rw [e]; intro h; injection h with h; have := hP.lt; omega
  have hgr : w2.grownBy (w2.setCell ⟨P, 1, none⟩ v) (some P) := ⟨rfl, rfl, rfl, by simp, fun k _ hk => heap_setCell_other w2 ⟨P, 1, none⟩ k v (fun e => hk (by simp [e]))⟩
  refine ⟨v, n + 1, F ++ [s], p', ?_, ?_, hvP, hsh.snoc hs, hp, ?_, ?_⟩
  · simpa using hP2.set_ 1 v
  · rw [List.map_append]
    exact own.kept hgr (.inr hvP)
  · have hr2 := hr.own gr hfv hg
    exact hr2.below (B := g + 1) ⟨rfl, rfl, rfl, by simp, fun k hk => heap_setCell_other w2 ⟨P, 1, none⟩ k v (fun e => by simp at e; omega)⟩ (by omega)
  · have h2 := hb.own gr hfv (Nat.le_refl _) hb.size
    exact h2.trans ⟨rfl, rfl, rfl, by simp, fun k hk _ => heap_setCell_other w2 ⟨P, 1, none⟩ k v (fun e => by simp at e; omega)⟩
theorem inner_keep {w0 w1 : World} {g P p k : Nat} {nm : ByteArray} (h : InnerAt w0 g P nm p k w1) : InnerAt w0 g P nm p (k + 1) w1 := by
  obtain ⟨fv, n, F, p', h1, h2, h3, h4, h5, h6, h7⟩ := h
  exact ⟨fv, n, F, p', h1, h2, h3, h4.more (by omega), by omega, h6, h7⟩

/-- The account goes behind all others. -/
theorem outer_step {W w1 w2 : World} {n c : Nat} {nm : ByteArray} {A : Option Addr} {X : List Acc} {xs : List Value} {fv v2 : Value} {F : List ByteArray}
    (hX : w1.ownsRow W.heap.size 31 2 (.slice A n c) n xs) (hR : RdA w1 (fun b => W.heap.size ≤ b ∧ b < w1.heap.size ∧ (Value.slice A n c).ownBlock ≠ some b) xs X)
    (own2 : w2.ownsRow W.heap.size 31 2 v2 (n + 1) (xs ++ [.string nm, fv])) (gr : (w1.alloc (.cells #[.string nm, fv] 31)).grownBy w2 (Value.slice A n c).ownBlock)
    (at2 : v2.ownBlock = (Value.slice A n c).ownBlock ∨ v2.ownBlock = some (w1.alloc (.cells #[.string nm, fv] 31)).heap.size)
    (hfv : Fls w1 (fun b => W.heap.size ≤ b ∧ b < w1.heap.size ∧ (Value.slice A n c).ownBlock ≠ some b) fv F) :
    OwnA W.heap.size w2 v2 (X ++ [(nm, F)]) := by
  have hown : ∃ A2 n2 c2, v2 = .slice A2 n2 c2 ∧ n2 = n + 1 := by
    rcases own2.2 with ⟨rfl, h⟩ | ⟨_, cap, _, rfl, _⟩
    · omega
    · exact ⟨_, _, _, rfl, rfl⟩
  obtain ⟨A2, n2, c2, rfl, rfl⟩ := hown
  refine ⟨A2, n + 1, c2, _, rfl, own2, ?_⟩
  have h1 : RdA w1 (fun b => W.heap.size ≤ b ∧ b < w1.heap.size ∧ (Value.slice A n c).ownBlock ≠ some b) (xs ++ [.string nm, fv]) (X ++ [(nm, F)]) := hR.snoc hfv
  refine (h1.keep fun q hq => ?_).more fun b hb => ⟨hb.1, ?_, ?_⟩
  · have e1 : (w1.alloc (.cells #[.string nm, fv] 31)).cell? q = w1.cell? q := (((Below.refl w1.heap.size w1).alloc (Nat.le_refl _) _).cell (p := q) hq.2.1)
    rw [← e1]
    exact World.cell?_of_block (gr.block _ (by simp; omega) (fun e => hq.2.2 e.symm))
  · have h2 := gr.size; simp at h2; omega
  · rcases at2 with e | e
    · rw [e]; exact hb.2.2
    · rw [e]; simp; omega
end Go.Proofs.Ytohodhogbdcdmab
