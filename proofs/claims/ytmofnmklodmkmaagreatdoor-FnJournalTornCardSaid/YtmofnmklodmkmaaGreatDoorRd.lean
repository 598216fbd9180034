/- Decimals, checks of texts, validity of records: the spec's functions. -/
import Derived.Test.YtmofnmklodmkmaaGreatDoorRec2
import Derived.Test.YtmofnmklodmkmaaGreatDoorNv
import Derived.Test.YtmofnmklodmkmaaGreatDoorMk
import Derived.Deep.RegionWith
import Derived.WalkLawsBesides
import Derived.IntWalk
import Derived.Outline
set_option linter.unusedVariables false
set_option linter.unusedSimpArgs false
namespace Go.Proofs.YtmofnmklodmkmaaGreatDoor
open Go.RowKit

/-- []byte of one letter, as a string. -/
theorem conv_any {P : Program} {src dst e : TypeId} (hs : P.underlying src = some (.slice e)) (he : P.underlying e = some (.int .u8)) (hd : P.underlying dst = some .string) (W : World) (b : Nat) (z : Int) (hc : W.cell? ⟨b, 0, none⟩ = some (.int .u8 z)) :
    (convert src dst (.slice (some ⟨b, 0, none⟩) 1 1)).run P W = .ok (.string { data := #[UInt8.ofNat z.toNat] }) W := by
  rw [run_convert_bytes_string _ _ _ _ _ _ _ hs he hd, run_bytesToString _ _ _ _ [z] ?_]
  · rfl
  · simp [loadCells, go_sem, hc]

def decB (n : Nat) : ByteArray := tb (decL n)
theorem decB_size (n : Nat) : (decB n).size ≤ 3 := (@decL_len n).2
theorem dec_1 {n : Nat} (h : n < 10) : decB n = ⟨#[dg n]⟩ := by unfold decB decL; rw [if_pos h]; rfl

set_option maxHeartbeats 1000000 in
set_option maxRecDepth 100000 in
theorem s_dec1 (n : Nat) (w : World) (h : n < 10) :
    Calls Tryz.prog 46 #[.int .i64 (n : Int)] w fun e w' => e = .returned (.string (decB n)) ∧ Below w.heap.size w w' := by
  have hcv := fun W z => conv_one (P := Tryz.prog) Tryz.underlying22 Tryz.underlying5 Tryz.underlying9 W z
  have H := hide (dec_1 h)
  have h1 : (n : Int) < 10 := by omega
  have h2 : ¬ ((n : Int) < -9223372036854775807) := by omega
  have h3 : ¬ ((n : Int) < 0) := by omega
  go_enter Tryz.func46, Tryz.ntmps46
  go_wp2_with fail
  go_ret
  exact ⟨by rw [H.out]; rfl, (Below.refl _ _).alloc (Nat.le_refl _) _⟩

theorem dec_2 {n : Nat} (h : 10 ≤ n) (h2 : n < 100) : decB n = decB (n / 10) ++ ⟨#[48 + UInt8.ofNat (n % 10)]⟩ := by
  rw [dec_1 (show n / 10 < 10 by omega)]
  unfold decB decL
  rw [if_neg (by omega), if_pos h2]
  rfl
theorem dec_3 {n : Nat} (h : 100 ≤ n) (h2 : n < 1000) : decB n = decB (n / 10) ++ ⟨#[48 + UInt8.ofNat (n % 10)]⟩ := by
  unfold decB decL
  rw [if_neg (by omega), if_neg (by omega), if_neg (by omega), if_pos (by omega), show n / 10 / 10 = n / 100 by omega]
  rfl
set_option maxHeartbeats 1000000 in
set_option maxRecDepth 100000 in
/-- The decimals of the number ahead, then a digit. -/
theorem s_decN (n : Nat) (w : World) (h10 : 10 ≤ n) (h : n < 1000) (hd : decB n = decB (n / 10) ++ ⟨#[48 + UInt8.ofNat (n % 10)]⟩) (ih : ∀ W : World, Calls Tryz.prog 46 #[.int .i64 ((n : Int) / 10)] W fun e w' => e = .returned (.string (decB (n / 10))) ∧ Below W.heap.size W w') :
    Calls Tryz.prog 46 #[.int .i64 (n : Int)] w fun e w' => e = .returned (.string (decB n)) ∧ Below w.heap.size w w' := by
  have hcv := fun W b z => conv_any (P := Tryz.prog) Tryz.underlying22 Tryz.underlying5 Tryz.underlying9 W b z
  have H := hide hd
  have IH := hide ih
  have h1 : ¬ ((n : Int) < 10) := by omega
  have h2 : ¬ ((n : Int) < -9223372036854775807) := by omega
  have h3 : ¬ ((n : Int) < 0) := by omega
  clear hd ih
  go_enter Tryz.func46, Tryz.ntmps46
  have hsz := decB_size (n / 10)
  have hc0 : ((w.alloc (.cells #[.int .u8 (48 + (n : Int) % 10)] 5)).drew).cell? ⟨w.heap.size, 0, none⟩ = some (.int .u8 (48 + (n : Int) % 10)) := (Blk.new w 5 #[.int .u8 (48 + (n : Int) % 10)]).cell 0
  have Hc0 := hide hc0
  clear hc0
  have hw1 : IntKind.i64.wrap ((n : Int) / 10) = (n : Int) / 10 := IntWalk.i64_in _ (by omega)
  have hw3 : IntKind.u8.wrap (48 + (n : Int) % 10) = 48 + (n : Int) % 10 := IntWalk.u8_in _ (by omega)
  have hw0 : (n : Int).tmod 10 = (n : Int) % 10 := IntWalk.rem_in _ _ (by omega)
  have hw2 : IntKind.i64.wrap (48 + (n : Int) % 10) = 48 + (n : Int) % 10 := IntWalk.i64_in _ (by omega)
  go_wp2_with fail
  go_region_with (
    (go_at_call 46
     with_reducible refine (IH.out _).mono ?_
     rintro e w5 ⟨rfl, hb5⟩
     have HB5 : Hid (Below w.heap.size w w5) := by
       first
         | exact (Below.refl _ w).drew.trans hb5
         | exact ((Below.refl _ w).alloc (Nat.le_refl _) _).drew.trans (hb5.mono (by simp))
     try (have hc5 := (hb5.cell (p := ⟨w.heap.size, 0, none⟩) (by simp)).trans Hc0.out)))
  all_goals
    clear hw0 hw1 hw2 hw3
    go_wp2_with fail
    go_ret
    refine ⟨?_, by first | exact HB5.out | exact HB5.out.alloc HB5.out.size _⟩
    rw [H.out]; rfl
theorem s_dec2 (n : Nat) (w : World) (h : n < 100) :
    Calls Tryz.prog 46 #[.int .i64 (n : Int)] w fun e w' => e = .returned (.string (decB n)) ∧ Below w.heap.size w w' := by
  by_cases h1 : n < 10
  · exact s_dec1 n w h1
  · exact s_decN n w (by omega) (by omega) (dec_2 (by omega) h) fun W => s_dec1 (n / 10) W (by omega)
theorem s_dec (n : Nat) (w : World) (h : n < 1000) :
    Calls Tryz.prog 46 #[.int .i64 (n : Int)] w fun e w' => e = .returned (.string (decB n)) ∧ Below w.heap.size w w' := by
  by_cases h1 : n < 100
  · exact s_dec2 n w h1
  · exact s_decN n w (by omega) h (dec_3 (by omega) h) fun W => s_dec2 (n / 10) W (by omega)
end Go.Proofs.YtmofnmklodmkmaaGreatDoor
