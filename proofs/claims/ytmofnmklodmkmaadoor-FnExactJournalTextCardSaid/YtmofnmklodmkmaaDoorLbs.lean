/- What the library's strconv.Itoa, strconv.Atoi, strings.Split do, in plain words. -/
import Derived.Test.YtmofnmklodmkmaaDoorLay6
import Derived.Test.YtmofnmklodmkmaaDoorIrm
import Derived.Lib.AppendIntMem
import Derived.Lib.AtoiErrMem
import Derived.Shelf.SlSorted.Search
set_option linter.unusedVariables false
set_option linter.unusedSimpArgs false
namespace Go.Proofs.YtmofnmklodmkmaaDoor
open Go.RowKit

/-- The library's table of powers of ten lies as its text lays it. -/
structure Tw (w : World) : Prop where
  tab : Lib.TabIs Tryd.prog w "internal/strconv.uint64pow10" .u64 Lib.pow10Tab
theorem Tw.on {w w' : World} (h : Tw w) (hb : Below w.heap.size w w') : Tw w' := ⟨Lib.tabBelow_of_tabIs h.tab w' hb⟩
theorem cell_on {w w' : World} {g : Nat} {v : Value} (h : w.cell? ⟨g, 0, none⟩ = some v) (hb : Below w.heap.size w w') : w'.cell? ⟨g, 0, none⟩ = some v :=
  (hb.cell (p := ⟨g, 0, none⟩) (World.block_lt_of_cell? _ _ h)).trans h
theorem itoa_call (n : Nat) (h : n < 1000) (w : World) (hT : Tw w) :
    Calls Tryd.prog 29 #[.int .i64 (n : Int)] w fun e w' => e = .returned (.string (decB n)) ∧ Below w.heap.size w w' := by
  refine (Any.strconv_Itoa itoaL (n : Int) (by omega) (by omega) w hT.tab).mono fun e w' ⟨h1, k, os, h2⟩ => ⟨?_, ?_⟩
  · rw [h1, itoa_lib h]; rfl
  · rw [h2]; exact below_grown_sl _ _ _ _ (Nat.le_refl _)

end Go.Proofs.YtmofnmklodmkmaaDoor
