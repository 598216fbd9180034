/- The text of a mark. -/
import Derived.Test.YtmofnmklodmkmaaGreatDoorOwn
import Derived.LoopTactic
import Derived.Deep.RegionWith
set_option linter.unusedVariables false
set_option linter.unusedSimpArgs false
namespace Go.Proofs.YtmofnmklodmkmaaGreatDoor
open Go.RowKit

theorem grown_tb {a b c : World} {row : Option Nat} (h : a.grownBy b row) (k : Below b.heap.size b c) : a.grownBy c row :=
  ⟨k.os.trans h.os, k.tape.trans h.tape, k.output.trans h.output, Nat.le_trans h.size k.size, fun i hi hn => (k.block i (Nat.lt_of_lt_of_le hi h.size)).trans (h.block i hi hn)⟩
theorem grown_tr {a b c : World} {row : Option Nat} (h : a.grownBy b row) (k : b.grownBy c row) : a.grownBy c row :=
  ⟨k.os.trans h.os, k.tape.trans h.tape, k.output.trans h.output, Nat.le_trans h.size k.size, fun i hi hn => (k.block i (Nat.lt_of_lt_of_le hi h.size) hn).trans (h.block i hi hn)⟩
theorem own_form {w : World} {base : Nat} {e : TypeId} {size : Nat} {A : Option Addr} {n c : Nat} {xs : List Value} (h : w.ownsRow base e size (.slice A n c) n xs) : (A = none ∧ n = 0) ∨ ∃ b, A = some ⟨b, 0, none⟩ := by
  rcases h.2 with ⟨h1, h2⟩ | ⟨g, cap, cur, h1, _⟩
  · injection h1 with h1 h3
    exact .inl ⟨h1, h2⟩
  · injection h1 with h1
    exact .inr ⟨g, h1⟩
/-- The digits of x ahead of o. -/
def digs : Nat → Nat → ByteArray → ByteArray
  | 0, _, o => o
  | f + 1, x, o => if x = 0 then o else digs f (x / 10) (({ data := #[48 + UInt8.ofNat (x % 10)] } : ByteArray) ++ o)
theorem digs_zero (f : Nat) (o : ByteArray) : digs f 0 o = o := by cases f <;> rfl
theorem digs_fuel : ∀ (f g x : Nat) (o : ByteArray), x ≤ f → x ≤ g → digs f x o = digs g x o
  | 0, g, x, o, hf, hg => by obtain rfl : x = 0 := by omega
                             rw [digs_zero, digs_zero]
  | f + 1, 0, x, o, hf, hg => by obtain rfl : x = 0 := by omega
                                 rfl
  | f + 1, g + 1, x, o, hf, hg => by
    unfold digs
    split
    · rfl
    · exact digs_fuel f g (x / 10) _ (by omega) (by omega)
theorem digs_step {f x : Nat} {o : ByteArray} (hx : 0 < x) (hf : x ≤ f) : digs f x o = digs f (x / 10) (({ data := #[48 + UInt8.ofNat (x % 10)] } : ByteArray) ++ o) := by
  obtain ⟨g, rfl⟩ : ∃ g, f = g + 1 := ⟨f - 1, by omega⟩
  rw [show digs (g + 1) x o = digs g (x / 10) (({ data := #[48 + UInt8.ofNat (x % 10)] } : ByteArray) ++ o) by
    conv => lhs; unfold digs
    rw [if_neg (by omega)]]
  exact digs_fuel _ _ _ _ (by omega) (by omega)
/-- The text of mark k. -/
def mkT (k : Nat) : ByteArray := ({ data := #[109] } : ByteArray) ++ digs k k { data := #[] }

theorem conv_one {P : Program} {src dst e : TypeId} (hs : P.underlying src = some (.slice e)) (he : P.underlying e = some (.int .u8)) (hd : P.underlying dst = some .string) (W : World) (z : Int) :
    (convert src dst (.slice (some ⟨W.heap.size, 0, none⟩) 1 1)).run P (W.alloc (.cells #[.int .u8 z] e)) = .ok (.string { data := #[UInt8.ofNat z.toNat] }) (W.alloc (.cells #[.int .u8 z] e)) := by
  rw [run_convert_bytes_string _ _ _ _ _ _ _ hs he hd, run_bytesToString _ _ _ _ [z] ?_]
  · rfl
  · have h0 : (W.alloc (.cells #[.int .u8 z] e)).cell? ⟨W.heap.size, 0, none⟩ = some (.int .u8 z) := (Blk.new W e _).cell 0
    simp [loadCells, go_sem, h0]
set_option maxHeartbeats 1000000 in
theorem e_mark (k : Nat) (w : World) (hk : 1 ≤ k) (hk2 : k ≤ 100000000) :
    Calls Tryz.prog 40 #[.int .i64 k] w fun e w' => e = .returned (.string (mkT k)) ∧ Below w.heap.size w w' := by
  have hcv := fun W z => conv_one (P := Tryz.prog) Tryz.underlying22 Tryz.underlying5 Tryz.underlying9 W z
  go_enter Tryz.func40, Tryz.ntmps40
  go_wp2_with fail
  go_loopw [0, 3] (fun x s wr => ∃ (n : Nat) (o : ByteArray), x = .int .i64 n ∧ s = .string o ∧ n ≤ k ∧ o.size + n ≤ k ∧ Hid (digs k n o = digs k k { data := #[] }) ∧ Below w.heap.size w wr) (fun x _ _ => (intOf x).toNat)
  case atStart => exact ⟨k, { data := #[] }, rfl, rfl, Nat.le_refl _, by show 0 + k ≤ k; omega, rfl, Below.refl _ _⟩
  case round =>
    obtain ⟨n, o, rfl, rfl, hn, hos, hd, hb⟩ := hrel
    by_cases h0 : 0 < n
    · go_wp2_with fail
      go_roundw
      case rel =>
        refine ⟨n / 10, _, by go_num, rfl, by omega, ?_, ?_, hb.alloc hb.size _⟩
        · rw [ByteArray.size_append]; show 1 + o.size + n / 10 ≤ k; omega
        · exact (digs_step h0 hn).symm.trans hd.out
      case measure => simp [intOf]; omega
    · obtain rfl : n = 0 := by omega
      have H : Hid (o = digs k k { data := #[] }) := by have := hd.out; rw [digs_zero] at this; exact this
      have hosz : o.size ≤ k := by omega
      go_wp2_with fail
      go_ret
      refine ⟨?_, hb⟩
      rw [mkT, ← H.out]; rfl
theorem grown_drewN (w : World) (n : Nat) {row : Option Nat} : w.grownBy (w.drewN n) row := ⟨rfl, rfl, rfl, Nat.le_refl _, fun _ _ _ => rfl⟩
end Go.Proofs.YtmofnmklodmkmaaGreatDoor
