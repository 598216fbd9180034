/- What the library's strconv.Itoa, strconv.Atoi, strings.Split do, in plain words. -/
import Derived.Test.YtmofnmklodmkmaaGreatDoorLay6
import Derived.Test.YtmofnmklodmkmaaGreatDoorIrm
import Derived.Lib.AppendIntMem
import Derived.Lib.AtoiErrMem
import Derived.Shelf.SlSorted.Search
set_option linter.unusedVariables false
set_option linter.unusedSimpArgs false
namespace Go.Proofs.YtmofnmklodmkmaaGreatDoor
open Go.RowKit

/-- The library's table of powers of ten lies as its text lays it. -/
structure Tw (w : World) : Prop where
  tab : Lib.TabIs Tryz.prog w "internal/strconv.uint64pow10" .u64 Lib.pow10Tab
theorem Tw.on {w w' : World} (h : Tw w) (hb : Below w.heap.size w w') : Tw w' := ⟨Lib.tabBelow_of_tabIs h.tab w' hb⟩
theorem cell_on {w w' : World} {g : Nat} {v : Value} (h : w.cell? ⟨g, 0, none⟩ = some v) (hb : Below w.heap.size w w') : w'.cell? ⟨g, 0, none⟩ = some v :=
  (hb.cell (p := ⟨g, 0, none⟩) (World.block_lt_of_cell? _ _ h)).trans h
/-- Beside it: the longest needle is a number, the two errors are errors. -/
structure Vw (w : World) : Prop where
  tw : Tw w
  len : ∃ m, w.cell? ⟨splitL_ren.g 1, 0, none⟩ = some (.int .i64 m)
  syn : ∃ t p, w.cell? ⟨atoiL_ren.g 15, 0, none⟩ = some (.iface t p)
  rng : ∃ t p, w.cell? ⟨atoiL_ren.g 16, 0, none⟩ = some (.iface t p)
theorem Vw.on {w w' : World} (h : Vw w) (hb : Below w.heap.size w w') : Vw w' :=
  ⟨h.tw.on hb, let ⟨m, hm⟩ := h.len; ⟨m, cell_on hm hb⟩, let ⟨t, p, hm⟩ := h.syn; ⟨t, p, cell_on hm hb⟩, let ⟨t, p, hm⟩ := h.rng; ⟨t, p, cell_on hm hb⟩⟩

theorem itoa_call (n : Nat) (h : n < 1000) (w : World) (hT : Tw w) :
    Calls Tryz.prog 36 #[.int .i64 (n : Int)] w fun e w' => e = .returned (.string (decB n)) ∧ Below w.heap.size w w' := by
  refine (Any.strconv_Itoa itoaL (n : Int) (by omega) (by omega) w hT.tab).mono fun e w' ⟨h1, k, os, h2⟩ => ⟨?_, ?_⟩
  · rw [h1, itoa_lib h]; rfl
  · rw [h2]; exact below_grown_sl _ _ _ _ (Nat.le_refl _)

theorem atoi_call (s : ByteArray) (hs : s.size ≤ 1048576) (w : World) (hV : Vw w) :
    Calls Tryz.prog 74 #[.string s] w fun e w' => ∃ x er, e = .returned (.tuple #[.int .i64 x, er]) ∧ ((er = .nilIface ∧ x = wnum s.data.toList) ∨ ((∃ T p, er = .iface T p) ∧ wnum s.data.toList = 0)) ∧ Below w.heap.size w w' := by
  rcases ha : Lib.atoiAll s.data.toList with v | _ | _
  · refine (Any.strconv_Atoi_ok atoiL s (by omega) v ha w).mono fun e w' ⟨h1, h2⟩ => ⟨v, .nilIface, h1, .inl ⟨rfl, by unfold wnum; rw [ha]⟩, ?_⟩
    rcases h2 with rfl | ⟨t, rfl⟩
    · exact Below.refl _ _
    · exact Lib.bytesWorld_below _ _ _
  · obtain ⟨t, p, hc⟩ := hV.syn
    exact (Any.strconv_Atoi_syntax atoiL s (by omega) ha _ w hc (.inr ⟨t, p, rfl⟩)).mono fun e w' ⟨N, h1, _, _, h2⟩ => ⟨_, _, h1, .inr ⟨⟨_, _, rfl⟩, by unfold wnum; rw [ha]⟩, h2⟩
  · obtain ⟨t, p, hc⟩ := hV.rng
    exact (Any.strconv_Atoi_range atoiL s (by omega) ha _ w hc (.inr ⟨t, p, rfl⟩)).mono fun e w' ⟨N, h1, _, _, h2⟩ => ⟨_, _, h1, .inr ⟨⟨_, _, rfl⟩, by unfold wnum; rw [ha]⟩, h2⟩

theorem split_call (s : ByteArray) (hs : s.size ≤ 1048576) (w : World) (hV : Vw w) :
    Calls Tryz.prog 65 #[.string s, .string ⟨#[32]⟩] w fun e w' => e = .returned (.slice (some ⟨w.heap.size, 0, none⟩) (cutL s.data.toList).length (cutL s.data.toList).length) ∧ w' = w.alloc (.cells (((cutL s.data.toList).map tb).map Value.string).toArray 9) := by
  obtain ⟨m, hm⟩ := hV.len
  have h := Any.strings_Split { splitL with } splitL.i9 s ⟨#[32]⟩ m w (by omega) hm (by decide)
  rw [splitB_cut, ← cut_count] at h
  exact h
end Go.Proofs.YtmofnmklodmkmaaGreatDoor
