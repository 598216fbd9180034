/- Words for memory of the call's own, next to the reader. -/
import Derived.Test.YtmofnmklodmkmaaGreatDoorDraw1
import Derived.Test.YtmofnmklodmkmaaGreatDoorApp
set_option linter.unusedVariables false
set_option linter.unusedSimpArgs false
namespace Go.Proofs.YtmofnmklodmkmaaGreatDoor
open Go.RowKit

theorem But.grown {g : Nat} {a b : World} (h : But a.heap.size g a b) : a.grownBy b (some g) := ⟨h.os, h.tape, h.output, h.size, fun k hk hn => h.block k hk (fun e => hn (by rw [e]))⟩
theorem own_but {base g : Nat} {a b : World} {e : TypeId} {size n : Nat} {v : Value} {xs : List Value} (ho : a.ownsRow base e size v n xs) (h : But a.heap.size g a b) (hg : g < base) : b.ownsRow base e size v n xs :=
  ho.kept h.grown (.inr (fun e => by have := (ho.lt g e).1; omega))
theorem But.own {B g base : Nat} {a w w' : World} {e : TypeId} {size n : Nat} {v : Value} {xs : List Value} (h : But B g a w) (hg : w.grownBy w' v.ownBlock) (ho : w.ownsRow base e size v n xs) (hB : B ≤ base) (hbw : B ≤ w.heap.size) : But B g a w' :=
  h.trans ⟨hg.os, hg.tape, hg.output, hg.size, fun k hk _ => hg.block k (by omega) (fun e => by have := (ho.lt k e.symm).1; omega)⟩
theorem But.alloc {B g : Nat} {a w : World} (h : But B g a w) (hB : B ≤ w.heap.size) (o : Obj) : But B g a (w.alloc o) := h.trans (But.of_below ((Below.refl B w).alloc hB o))
theorem Rdr.own {t : TypeId} {g p base : Nat} {w w' : World} {e : TypeId} {size n : Nat} {v : Value} {xs : List Value} (h : Rdr t w g p) (hg : w.grownBy w' v.ownBlock) (ho : w.ownsRow base e size v n xs) (hgb : g < base) : Rdr t w' g p :=
  h.below (B := g + 1) ⟨hg.os, hg.tape, hg.output, hg.size, fun k hk => hg.block k (by have := h.lt; omega) (fun e => by have := (ho.lt k e.symm).1; omega)⟩ (by omega)
theorem Blk.own {b : Nat} {w w' : World} {t : TypeId} {cs : Array Value} {v : Value} (h : Blk w b t cs) (hg : w.grownBy w' v.ownBlock) (hne : v.ownBlock ≠ some b) : Blk w' b t cs := h.grown hg (fun e => hne e.symm)
theorem Blk.but {b g : Nat} {w w' : World} {t : TypeId} {cs : Array Value} (h : Blk w b t cs) (hb : But w.heap.size g w w') (hne : b ≠ g) : Blk w' b t cs := (hb.block b h.lt hne).trans h

theorem grown_of_below {w w' : World} (h : Below w.heap.size w w') {row : Option Nat} : w.grownBy w' row := ⟨h.os, h.tape, h.output, h.size, fun k hk _ => h.block k hk⟩
theorem own_base {w : World} {base base' : Nat} {e : TypeId} {size n : Nat} {v : Value} {xs : List Value} (h : w.ownsRow base e size v n xs) (hb : base' ≤ base) : w.ownsRow base' e size v n xs :=
  ⟨h.1, by
    rcases h.2 with h | ⟨g, cap, cur, e1, e2, e3⟩
    · exact .inl h
    · exact .inr ⟨g, cap, cur, e1, by omega, e3⟩⟩
/-- Block b holds N short strings. -/
def Lit (w : World) (b N : Nat) : Prop := ∃ cs : Array Value, Blk w b 9 cs ∧ cs.size = N ∧ cs.toList.all shortStr = true
theorem Lit.cell {w : World} {b N k : Nat} (h : Lit w b N) (hk : k < N) : ∃ s : ByteArray, s.size ≤ 5 ∧ w.cell? ⟨b, k, none⟩ = some (.string s) := by
  obtain ⟨cs, hb, hn, ha⟩ := h
  obtain ⟨s, h5, hs⟩ := shortStr_of (List.all_eq_true.1 ha (cs[k]'(by omega)) (by simp))
  exact ⟨s, h5, by rw [hb.cell, Array.getElem?_eq_getElem (by omega), hs]⟩

set_option maxHeartbeats 400000 in
theorem pick_lit (g p m b N : Nat) (z : Int) (cs : Array Value) (w : World) (hz : z = (m : Int)) (hr : Rdr 73 w g p) (hp : p ≤ 1000000) (hm : 1 ≤ m) (hm2 : m ≤ 1000000) (hb : Blk w b 9 cs) (hne : b ≠ g) (hN : cs.size = N) (hs : cs.toList.all shortStr = true) :
    Calls Tryz.prog 41 #[.pointer (some ⟨g, 0, none⟩), .int .i64 z] w fun e w' => In m e ∧ Rdr 73 w' g (p + 1) ∧ But w.heap.size g w w' ∧ Lit w' b N := by
  subst hz
  exact (pick_any g p m w hr hp hm hm2).mono fun _ _ ⟨h1, h2, h3⟩ => ⟨h1, h2, h3, cs, hb.but h3 hne, hN, hs⟩

/-- A list of at most M short strings. -/
def Short (M : Nat) (L : List ByteArray) : Prop := L.length ≤ M ∧ ∀ s ∈ L, s.size ≤ 5
theorem Short.snoc {M : Nat} {L : List ByteArray} {s : ByteArray} (h : Short M L) (hs : s.size ≤ 5) : Short (M + 1) (L ++ [s]) := by
  refine ⟨by have := h.1; simp; omega, fun t ht => ?_⟩
  rcases List.mem_append.1 ht with h1 | h1
  · exact h.2 t h1
  · rw [List.mem_singleton.1 h1]; exact hs
theorem Short.more {M M' : Nat} {L : List ByteArray} (h : Short M L) (hm : M ≤ M') : Short M' L := ⟨by have := h.1; omega, h.2⟩

theorem own_len' {w : World} {base : Nat} {e : TypeId} {v : Value} {m : Nat} {L : List ByteArray} (h : w.ownsRow base e 1 v m (L.map Value.string)) : L.length = m := by
  have := h.1; rw [List.length_map, Nat.mul_one] at this; exact this
theorem Lit.but {b N g : Nat} {w w' : World} (h : Lit w b N) (hb : But w.heap.size g w w') (hne : b ≠ g) : Lit w' b N := by
  obtain ⟨cs, h1, h2, h3⟩ := h
  exact ⟨cs, h1.but hb hne, h2, h3⟩
theorem own_cap {w : World} {base : Nat} {e : TypeId} {size : Nat} {A : Option Addr} {n c m : Nat} {xs : List Value} (h : w.ownsRow base e size (.slice A n c) m xs) : n ≤ c ∧ c ≤ maxLen := by
  rcases h.2 with ⟨h1, _⟩ | ⟨g, cap, cur, h1, _, _, h2, h3, _⟩
  · injection h1 with _ h1 h2
    subst h1 h2
    exact ⟨Nat.le_refl _, Nat.zero_le _⟩
  · injection h1 with _ h1 h4
    subst h1 h4
    exact ⟨h2, h3⟩

end Go.Proofs.YtmofnmklodmkmaaGreatDoor
