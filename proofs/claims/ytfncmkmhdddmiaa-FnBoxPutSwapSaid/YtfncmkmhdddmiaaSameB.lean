/- sameBox, sameBoxes of boxes and themselves. -/
import Derived.Test.YtfncmkmhdddmiaaBv
import Derived.Test.YtfncmkmhdddmiaaSameI
set_option linter.unusedVariables false
set_option linter.unusedSimpArgs false
namespace Go.Proofs.Ytfncmkmhdddmiaa
open Go.RowKit

set_option maxHeartbeats 1000000 in
theorem l_sameB (a : Bx) (A : Option Addr) (n c : Nat) (B : Option Addr) (m d : Nat) (w : World) (hA : Ints w w.heap.size A n a.2) (hB : Ints w w.heap.size B m a.2) (hn : n ≤ maxLen) (hm : m ≤ maxLen) :
    Calls Try.prog 62 #[.agg #[.string a.1, .slice A n c], .agg #[.string a.1, .slice B m d]] w fun e w' => e = .returned (.bool true) ∧ Below w.heap.size w w' := by
  have Hbel : ∀ T S, Hid (Below w.heap.size w ((w.alloc (.cells #[.string a.1, .slice A n c] T)).alloc (.cells #[.string a.1, .slice B m d] S))) := fun T S => hide (((Below.refl _ _).alloc (Nat.le_refl _) _).alloc (by simp) _)
  have HA := hide hA
  have HB := hide hB
  clear hA hB
  go_enter Try.func62, Try.ntmps62
  go_wp2_with fail
  refine (l_sameI A n c B m d a.2 _ (HA.out.on (Hbel _ _).out) (HB.out.on (Hbel _ _).out) hn).mono ?_
  rintro e w4 ⟨rfl, q4, rfl⟩
  go_wp2_with fail
  go_ret
  exact ⟨rfl, below_drewN (Hbel _ _).out q4⟩

theorem Later.sameB {B0 : Nat} {W : World} (z : Later B0 W) (a : Bx) (A : Option Addr) (n c : Nat) (B : Option Addr) (m d : Nat) (hA : Ints W B0 A n a.2) (hB : Ints W B0 B m a.2) (h0 : B0 ≤ W.heap.size) (hn : n ≤ maxLen) (hm : m ≤ maxLen) :
    Calls Try.prog 62 #[.agg #[.string a.1, .slice A n c], .agg #[.string a.1, .slice B m d]] z.it fun e w'' => e = .returned (.bool true) ∧ ∃ z' : Later B0 W, w'' = z'.it := by
  have hsz := z.below.size
  exact Later.call ((l_sameB a A n c B m d z.it ((hA.below z.below).more (by omega)) ((hB.below z.below).more (by omega)) hn hm).mono fun e w' ⟨h1, h2⟩ => ⟨h1, h2.mono (by omega)⟩)

set_option maxHeartbeats 1000000 in
theorem l_sameBs (A : Option Addr) (n c : Nat) (B : Option Addr) (m d : Nat) (X : List Bx) (w : World) (hA : Bxs w w.heap.size A n X) (hB : Bxs w w.heap.size B m X) (hn : n ≤ maxLen) :
    Calls Try.prog 27 #[.slice A n c, .slice B m d] w fun e w' => e = .returned (.bool true) ∧ Below w.heap.size w w' := by
  unfold maxLen at hn
  have hl := hide hA.1
  have hnm : n = m := hA.1.symm.trans hB.1
  subst hnm
  have HA := hide hA
  have HB := hide hB
  clear hA hB
  go_enter Try.func27, Try.ntmps27
  go_wp2_with fail
  go_loopw [5] (fun i wr => ∃ k : Nat, k ≤ n ∧ i = .int .i64 k ∧ Hid (Below w.heap.size w wr)) (fun i _ => n - (intOf i).toNat)
  case atStart => exact ⟨0, Nat.zero_le _, rfl, Below.refl _ _⟩
  case round =>
    obtain ⟨k, hk, rfl, hbr⟩ := hrel
    by_cases hlt : k < n
    · obtain ⟨a, ha⟩ : ∃ a, X[k]? = some a := ⟨X[k]'(by have := hl.out; omega), List.getElem?_eq_getElem _⟩
      obtain ⟨g, off, A4, n4, c4, rfl, hg, hc0, hc1, hn4, hm4, hf⟩ := (HA.out.below hbr.out).at' ha
      obtain ⟨g2, off2, A5, n5, c5, rfl, hg2, hd0, hd1, hn5, hm5, hf2⟩ := (HB.out.below hbr.out).at' ha
      have hz0 : ∀ z : Later w.heap.size wr, z.it.cell? ⟨g, off + k * 2, none⟩ = some (.string a.1) := fun z => (z.cell hg).trans hc0
      have hz1 : ∀ z : Later w.heap.size wr, z.it.cell? ⟨g, off + k * 2 + 1, none⟩ = some (.slice A4 n4 c4) := fun z => (z.cell hg).trans hc1
      have hz2 : ∀ z : Later w.heap.size wr, z.it.cell? ⟨g2, off2 + k * 2, none⟩ = some (.string a.1) := fun z => (z.cell hg2).trans hd0
      have hz3 : ∀ z : Later w.heap.size wr, z.it.cell? ⟨g2, off2 + k * 2 + 1, none⟩ = some (.slice A5 n5 c5) := fun z => (z.cell hg2).trans hd1
      have HF : Hid (Ints wr w.heap.size A4 n4 a.2) := hf.ints
      have HF2 : Hid (Ints wr w.heap.size A5 n5 a.2) := hf2.ints
      have hsz := hbr.out.size
      clear hf hf2 hc0 hc1 hd0 hd1 ha
      go_wp2_with fail
      refine wp_region_later (B := w.heap.size) (by kernel_rfl) (by kernel_rfl) ?_
      repeat (go_big_quiet_step ((go_at_call 62; exact Later.sameB _ a A4 n4 c4 A5 n5 c5 HF.out HF2.out hsz hm4 hm5)))
      refine wpQuiet_nil ?_
      intro _ hw'
      obtain ⟨⟨w5, hb5⟩, hw''⟩ := hw'
      subst hw''
      have Hb5 := hide hb5
      clear hb5
      go_wp2_with fail
      go_roundw
      case rel => exact ⟨k + 1, by omega, by go_num, hbr.out.trans Hb5.out⟩
      case measure => simp [intOf]; omega
    · go_wp2_with fail
      go_ret
      exact ⟨rfl, hbr.out⟩
end Go.Proofs.Ytfncmkmhdddmiaa
