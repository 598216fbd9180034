/- Decimals, checks of texts, validity of records: the spec's functions. -/
import Derived.Test.YtiejbliadegcdaaRec2
import Derived.Test.YtiejbliadegcdaaNv
import Derived.Test.YtiejbliadegcdaaMk
import Derived.Deep.RegionWith
import Derived.WalkLawsBesides
import Derived.IntWalk
import Derived.Outline
set_option linter.unusedVariables false
set_option linter.unusedSimpArgs false
namespace Go.Proofs.Ytiejbliadegcdaa
open Go.RowKit

/-- []byte of one letter, as a string. -/
theorem conv_any {P : Program} {src dst e : TypeId} (hs : P.underlying src = some (.slice e)) (he : P.underlying e = some (.int .u8)) (hd : P.underlying dst = some .string) (W : World) (b : Nat) (z : Int) (hc : W.cell? ⟨b, 0, none⟩ = some (.int .u8 z)) :
    (convert src dst (.slice (some ⟨b, 0, none⟩) 1 1)).run P W = .ok (.string { data := #[UInt8.ofNat z.toNat] }) W := by
  rw [run_convert_bytes_string _ _ _ _ _ _ _ hs he hd, run_bytesToString _ _ _ _ [z] ?_]
  · rfl
  · simp [loadCells, go_sem, hc]

def decB (n : Nat) : ByteArray := tb (decL n)
theorem decB_size (n : Nat) : (decB n).size ≤ 3 := (@decL_len n).2
theorem dec_1 {n : Nat} (h : n < 10) : decB n = ⟨#[dg n]⟩ := by unfold decB decL; rw [if_pos h]; rfl

theorem dec_2 {n : Nat} (h : 10 ≤ n) (h2 : n < 100) : decB n = decB (n / 10) ++ ⟨#[48 + UInt8.ofNat (n % 10)]⟩ := by
  rw [dec_1 (show n / 10 < 10 by omega)]
  unfold decB decL
  rw [if_neg (by omega), if_pos h2]
  rfl
theorem dec_3 {n : Nat} (h : 100 ≤ n) (h2 : n < 1000) : decB n = decB (n / 10) ++ ⟨#[48 + UInt8.ofNat (n % 10)]⟩ := by
  unfold decB decL
  rw [if_neg (by omega), if_neg (by omega), if_neg (by omega), if_pos (by omega), show n / 10 / 10 = n / 100 by omega]
  rfl
end Go.Proofs.Ytiejbliadegcdaa
