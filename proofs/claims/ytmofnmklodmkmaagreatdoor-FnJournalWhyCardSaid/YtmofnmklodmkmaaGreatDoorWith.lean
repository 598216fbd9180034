/- nameList.with, nameList.without. -/
import Derived.Test.YtmofnmklodmkmaaGreatDoorBs
import Derived.Test.YtmofnmklodmkmaaGreatDoorApp
import Derived.Deep.DeepMust
namespace Go.Proofs.YtmofnmklodmkmaaGreatDoor
open Go.RowKit

theorem str_info : (Tryz.prog.info? 9).map (fun i => (i.zero, i.size, i.bytes)) = some (some (.string ByteArray.empty), 1, 16) := by kernel_rfl

/-- A list of strings in memory of the call's own. -/
def OwnL (base : Nat) (w' : World) (v : Value) (L : List ByteArray) : Prop := ∃ A n c, v = .slice A n c ∧ w'.ownsRow base 9 1 (.slice A n c) n (L.map Value.string)
/-- A function hands back such a list; nothing that was there has turned. -/
def Own1 (w : World) (L : List ByteArray) (e : Ending) (w' : World) : Prop := ∃ v, e = .returned v ∧ OwnL w.heap.size w' v L ∧ Below w.heap.size w w'
/-- .. and whether it succeeds. -/
def Own2 (w : World) (o : Option (List ByteArray)) (e : Ending) (w' : World) : Prop := ∃ v, e = .returned (.tuple #[v, .bool o.isSome]) ∧ OwnL w.heap.size w' v (o.getD []) ∧ Below w.heap.size w w'

theorem OwnL.mk {base : Nat} {w' : World} {v : Value} {m : Nat} {xs : List Value} {L : List ByteArray} (h : w'.ownsRow base 9 1 v m xs) (e : xs = L.map Value.string) : OwnL base w' v L := by
  subst e
  rcases h.2 with ⟨rfl, rfl⟩ | ⟨g, cap, cur, rfl, _⟩
  · exact ⟨_, _, _, rfl, h⟩
  · exact ⟨_, _, _, rfl, h⟩

end Go.Proofs.YtmofnmklodmkmaaGreatDoor
