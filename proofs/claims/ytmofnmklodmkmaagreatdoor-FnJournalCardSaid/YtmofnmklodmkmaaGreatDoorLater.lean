/- A region that draws its order, whose operations read and whose callees make memory (and hand back plain values): one walk serves every order. No program. -/
import Derived.Test.YtmofnmklodmkmaaGreatDoorBase
import Derived.Deep.QuietTactic
import Derived.BigQuiet
namespace Go.Proofs.YtmofnmklodmkmaaGreatDoor
open Go.RowKit

/-- A world in which all below block B is as in w. -/
structure Later (B : Nat) (w : World) where
  it : World
  below : Below B w it
instance (B : Nat) (w : World) : Nonempty (Later B w) := ⟨⟨w, Below.refl _ _⟩⟩
theorem Later.cell {B : Nat} {w : World} (z : Later B w) {b o : Nat} (h : b < B) : z.it.cell? ⟨b, o, none⟩ = w.cell? ⟨b, o, none⟩ := z.below.cell (p := ⟨b, o, none⟩) h
theorem wp_region_later {P : Program} {B : Nat} {id : Nat} {Q : Exit → Act → World → Prop} {a : Act} {w : World} {l : List Oper} (hm : P.follows .mixedOrders = true) (hB : Region.lexB .any l.toArray = true)
    (h : wpQuiet P l.toArray (fun w' => ∃ z : Later B w, w' = z.it) (fun a' => ∀ w', (∃ z : Later B w, w' = z.it) → Q .normal a' w') l a) : (Code.region id l.toArray true).wp P Q a w :=
  wp_region_quiet (C := fun w' => ∃ z : Later B w, w' = z.it) hm hB ⟨⟨_, below_drewN' B w 1⟩, rfl⟩ (by simpa using h)
/-- A callee's contract. -/
theorem Later.call {P : Program} {f : FuncId} {args : Array Value} {B : Nat} {w : World} {z : Later B w} {v : Value}
    (h : Calls P f args z.it fun e w' => e = .returned v ∧ Below B z.it w') : Calls P f args z.it fun e w'' => e = .returned v ∧ ∃ z' : Later B w, w'' = z'.it :=
  h.mono fun _ w' ⟨he, hb⟩ => ⟨he, ⟨w', z.below.trans hb⟩, rfl⟩
theorem Later.same {P : Program} {f : FuncId} {args : Array Value} {B : Nat} {w : World} {z : Later B w} {v : Value}
    (h : Calls P f args z.it fun e w' => e = .returned v ∧ z.it = w') : Calls P f args z.it fun e w'' => e = .returned v ∧ ∃ z' : Later B w, w'' = z'.it :=
  h.mono fun _ _ ⟨he, hb⟩ => ⟨he, z, hb.symm⟩
theorem Later.drew {P : Program} {f : FuncId} {args : Array Value} {B : Nat} {w : World} {z : Later B w} {v : Value}
    (h : Calls P f args z.it fun e w' => e = .returned v ∧ ∃ q, w' = z.it.drewN q) : Calls P f args z.it fun e w'' => e = .returned v ∧ ∃ z' : Later B w, w'' = z'.it :=
  h.mono fun _ w' ⟨he, q, hb⟩ => ⟨he, ⟨w', z.below.trans (hb ▸ below_drewN' B z.it q)⟩, rfl⟩
end Go.Proofs.YtmofnmklodmkmaaGreatDoor
