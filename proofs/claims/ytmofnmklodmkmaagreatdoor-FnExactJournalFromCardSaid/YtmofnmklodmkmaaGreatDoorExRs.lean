/- Words of the exact laws of lists of records: sizes, copies, equality, marks. -/
import Derived.Test.YtmofnmklodmkmaaGreatDoorExR
import Derived.Test.YtmofnmklodmkmaaGreatDoorRx
import Derived.Test.YtmofnmklodmkmaaGreatDoorJr7
import Derived.Test.YtmofnmklodmkmaaGreatDoorMk
import Derived.Test.YtmofnmklodmkmaaGreatDoorLater
import Derived.Deep.RegionWith
set_option linter.unusedVariables false
set_option linter.unusedSimpArgs false
namespace Go.Proofs.YtmofnmklodmkmaaGreatDoor
open Go.RowKit Go.BigFrame

/-- A size is returned: below 0, or all is small. -/
def SzR (n : Nat) (left : Nat) (e : Ending) : Prop := (e = .returned (.int .i64 (-1))) ∨ ∃ r : Nat, e = .returned (.int .i64 r) ∧ r ≤ left ∧ n ≤ left
theorem Later.eqR {B : Nat} {W : World} (z : Later B W) (k i d : Int) (s t : ByteArray) (hB : B ≤ W.heap.size) :
    Calls Tryz.prog 39 #[.agg #[.int .i64 k, .int .i64 i, .int .i64 d, .string s, .string t], .agg #[.int .i64 k, .int .i64 i, .int .i64 d, .string s, .string t]] z.it fun e w'' => e = .returned (.bool true) ∧ ∃ z' : Later B W, w'' = z'.it := by
  have hsz := z.below.size
  exact Later.call ((e_eqR k i d s t z.it).mono fun e w' ⟨h1, h2⟩ => ⟨h1, h2.mono (by omega)⟩)
theorem Rcs.later {w W : World} {B n k : Nat} {A : Option Addr} {X : List Rec} {a : Rec} {g off : Nat} (h : Rc5 W g (off + k * 5) a) (hg : g < B) : ∀ z : Later B W, z.it.cell? ⟨g, off + k * 5, none⟩ = some (.int .i64 a.1) ∧ z.it.cell? ⟨g, off + k * 5 + 1, none⟩ = some (.int .i64 a.2.1) ∧ z.it.cell? ⟨g, off + k * 5 + 2, none⟩ = some (.int .i64 a.2.2.1) ∧ z.it.cell? ⟨g, off + k * 5 + 3, none⟩ = some (.string a.2.2.2.1) ∧ z.it.cell? ⟨g, off + k * 5 + 4, none⟩ = some (.string a.2.2.2.2) := fun z =>
  ⟨(z.cell hg).trans h.1, (z.cell hg).trans h.2.1, (z.cell hg).trans h.2.2.1, (z.cell hg).trans h.2.2.2.1, (z.cell hg).trans h.2.2.2.2⟩
set_option maxHeartbeats 2000000 in
set_option maxRecDepth 100000 in
theorem e_eqRs (A : Option Addr) (n c : Nat) (B : Option Addr) (m d : Nat) (X : List Rec) (w : World) (hL : Rcs w w.heap.size A n X) (hM : Rcs w w.heap.size B m X) (hn : n ≤ maxLen) :
    Calls Tryz.prog 19 #[.slice A n c, .slice B m d] w fun e w' => e = .returned (.bool true) ∧ Below w.heap.size w w' := by
  unfold maxLen at hn
  have hnm : n = m := hL.1.symm.trans hM.1
  subst hnm
  have hl := hide hL.1
  have HL := hide hL
  have HM := hide hM
  clear hL hM
  go_enter Tryz.func19, Tryz.ntmps19
  go_wp2_with fail
  go_loopw [5] (fun i wr => ∃ k : Nat, k ≤ n ∧ i = .int .i64 k ∧ Hid (Below w.heap.size w wr)) (fun i _ => n - (intOf i).toNat)
  case atStart => exact ⟨0, Nat.zero_le _, rfl, Below.refl _ _⟩
  case round =>
    obtain ⟨k, hk, rfl, hbr⟩ := hrel
    rename_i wr
    by_cases hlt : k < n
    · obtain ⟨a, ha⟩ : ∃ a, X[k]? = some a := ⟨X[k]'(by have := hl.out; omega), List.getElem?_eq_getElem _⟩
      obtain ⟨g, off, rfl, hg, hc⟩ := (HL.out.below hbr.out).at' ha
      obtain ⟨g2, off2, rfl, hg2, hd⟩ := (HM.out.below hbr.out).at' ha
      have hzc := Rcs.later (w := w) (n := n) (A := none) (X := X) hc hg
      have hzd := Rcs.later (w := w) (n := n) (A := none) (X := X) hd hg2
      obtain ⟨r1, r2, r3, r4, r5⟩ := a
      have hz0 := fun z => (hzc z).1
      have hz1 := fun z => (hzc z).2.1
      have hz2 := fun z => (hzc z).2.2.1
      have hz3 := fun z => (hzc z).2.2.2.1
      have hz4 := fun z => (hzc z).2.2.2.2
      have hy0 := fun z => (hzd z).1
      have hy1 := fun z => (hzd z).2.1
      have hy2 := fun z => (hzd z).2.2.1
      have hy3 := fun z => (hzd z).2.2.2.1
      have hy4 := fun z => (hzd z).2.2.2.2
      have hsz := hbr.out.size
      clear hc hd ha hzc hzd
      simp only at hz0 hz1 hz2 hz3 hz4 hy0 hy1 hy2 hy3 hy4
      go_wp2_with fail
      refine wp_region_later (B := w.heap.size) (by kernel_rfl) (by kernel_rfl) ?_
      repeat (go_big_quiet_step ((go_at_call 39; exact Later.eqR _ _ _ _ _ _ hsz)))
      refine wpQuiet_nil ?_
      intro _ hw'
      obtain ⟨⟨w5, hb5⟩, hw''⟩ := hw'
      subst hw''
      have Hb5 := hide hb5
      clear hb5
      go_wp2_with fail
      go_roundw
      case rel => exact ⟨k + 1, by omega, by go_num, hbr.out.trans Hb5.out⟩
      case measure => simp [intOf]; omega
    · go_wp2_with fail
      go_ret
      exact ⟨rfl, hbr.out⟩
end Go.Proofs.YtmofnmklodmkmaaGreatDoor
