/- Words of the exact laws of lists of records: sizes, copies, equality, marks. -/
import Derived.Test.YtmofnmklodmkmaaDoorExR
import Derived.Test.YtmofnmklodmkmaaDoorRx
import Derived.Test.YtmofnmklodmkmaaDoorJr7
import Derived.Test.YtmofnmklodmkmaaDoorMk
import Derived.Test.YtmofnmklodmkmaaDoorLater
import Derived.Deep.RegionWith
set_option linter.unusedVariables false
set_option linter.unusedSimpArgs false
namespace Go.Proofs.YtmofnmklodmkmaaDoor
open Go.RowKit Go.BigFrame

/-- A size is returned: below 0, or all is small. -/
def SzR (n : Nat) (left : Nat) (e : Ending) : Prop := (e = .returned (.int .i64 (-1))) ∨ ∃ r : Nat, e = .returned (.int .i64 r) ∧ r ≤ left ∧ n ≤ left
set_option maxHeartbeats 1000000 in
set_option maxRecDepth 100000 in
theorem e_szR1 (a : Rec) (x : Nat) (w : World) (hs : a.2.2.2.1.size ≤ maxLen) (ht : a.2.2.2.2.size ≤ maxLen) (hx : x ≤ 1048576) :
    Calls Tryd.prog 20 #[.agg #[.int .i64 a.1, .int .i64 a.2.1, .int .i64 a.2.2.1, .string a.2.2.2.1, .string a.2.2.2.2], .int .i64 x] w fun e w' => SzR 0 x e ∧ Below w.heap.size w w' := by
  obtain ⟨k, i, d, s, t⟩ := a
  simp only at hs ht ⊢
  unfold maxLen at hs ht
  have hb := hide ((Below.refl w.heap.size w).alloc (Nat.le_refl _) (.cells #[.int .i64 k, .int .i64 i, .int .i64 d, .string s, .string t] 49))
  by_cases h1 : x < s.size
  · have q1 : (x : Int) - (s.size : Int) < 0 := by omega
    go_enter Tryd.func20, Tryd.ntmps20
    go_wp2_with fail
    go_ret
    exact ⟨.inl rfl, hb.out⟩
  have q1 : ¬ ((x : Int) - (s.size : Int) < 0) := by omega
  by_cases h2 : x < s.size + t.size
  · have q2 : (x : Int) - (s.size : Int) - (t.size : Int) < 0 := by omega
    go_enter Tryd.func20, Tryd.ntmps20
    go_wp2_with fail
    go_ret
    exact ⟨.inl rfl, hb.out⟩
  · have q2 : ¬ ((x : Int) - (s.size : Int) - (t.size : Int) < 0) := by omega
    go_enter Tryd.func20, Tryd.ntmps20
    go_wp2_with fail
    go_ret
    exact ⟨.inr ⟨x - s.size - t.size, by rw [show ((x - s.size - t.size : Nat) : Int) = (x : Int) - (s.size : Int) - (t.size : Int) by omega]; rfl, by omega, by omega⟩, hb.out⟩
set_option maxHeartbeats 1000000 in
set_option maxRecDepth 100000 in
theorem e_szRs (A : Option Addr) (n c : Nat) (X : List Rec) (left : Nat) (w : World) (hX : Rcs w w.heap.size A n X) (hS : RSmall X) (hn : n ≤ maxLen) (hl2 : left ≤ 1048576) :
    Calls Tryd.prog 9 #[.slice A n c, .int .i64 left] w fun e w' => SzR n left e ∧ Below w.heap.size w w' := by
  unfold maxLen at hn
  have hl := hide hX.1
  have HX := hide hX
  have HS := hide hS
  clear hX hS
  by_cases h0 : left < n
  · have hlt : (left : Int) < (n : Int) := by omega
    go_enter Tryd.func9, Tryd.ntmps9
    go_wp2_with fail
    go_ret
    exact ⟨.inl rfl, Below.refl _ _⟩
  obtain ⟨d, hd⟩ : ∃ d, left = d + n := ⟨left - n, by omega⟩
  have hneg : ¬ ((left : Int) - (n : Int) < 0) := by omega
  have Hd := hide hd
  clear hd h0
  go_enter Tryd.func9, Tryd.ntmps9
  go_wp2_with fail
  go_loopw [1, 5] (fun r i wr => ∃ k x : Nat, k ≤ n ∧ i = .int .i64 k ∧ r = .int .i64 x ∧ x ≤ d ∧ Hid (Below w.heap.size w wr)) (fun _ i _ => n - (intOf i).toNat)
  case atStart => exact ⟨0, d, Nat.zero_le _, rfl, by have := Hd.out; go_num, Nat.le_refl _, Below.refl _ _⟩
  case round =>
    obtain ⟨k, x, hk, rfl, rfl, hx, hbr⟩ := hrel
    by_cases hlt : k < n
    · obtain ⟨a, ha⟩ : ∃ a, X[k]? = some a := ⟨X[k]'(by have := hl.out; omega), List.getElem?_eq_getElem _⟩
      obtain ⟨g, off, rfl, hg, hc0, hc1, hc2, hc3, hc4⟩ := (HX.out.below hbr.out).at' ha
      have hsm := HS.out a (List.mem_of_getElem? ha)
      have hsz := hbr.out.size
      clear ha
      go_wp2_with fail
      refine (e_szR1 a x _ hsm.1 hsm.2 (by have := Hd.out; omega)).mono ?_
      rintro e w2 ⟨h, hb2⟩
      have Hb2 := hide (hbr.out.trans (hb2.mono hsz))
      clear hb2
      rcases h with rfl | ⟨r, rfl, hr, _⟩
      · go_wp2_with fail
        go_ret
        exact ⟨.inl rfl, Hb2.out⟩
      · have hr0 : ¬ ((r : Int) < 0) := by omega
        go_wp2_with fail
        go_roundw
        case rel => exact ⟨k + 1, r, by omega, by go_num, by go_num, by omega, Hb2.out⟩
        case measure => simp [intOf]; omega
    · go_wp2_with fail
      go_ret
      exact ⟨.inr ⟨x, rfl, by have := Hd.out; omega, by have := Hd.out; omega⟩, hbr.out⟩

set_option maxHeartbeats 2000000 in
set_option maxRecDepth 100000 in
theorem e_toRs (A : Option Addr) (n c : Nat) (X : List Rec) (w : World) (hX : Rcs w w.heap.size A n X) (hn : n ≤ 1048576) :
    Calls Tryd.prog 10 #[.slice A n c] w fun e w' => e = .returned (.slice (some ⟨w.heap.size, 0, none⟩) n n) ∧ w'.ownsRow w.heap.size 41 5 (.slice (some ⟨w.heap.size, 0, none⟩) n n) n (rcells X) ∧ Below w.heap.size w w' := by
  obtain ⟨i0, hi0, hz0, hz1, hz2⟩ := info_parts5 rec_info
  have hU := Tryd.underlying23
  have hl := hide hX.1
  have HX := hide hX
  clear hX
  have b1 : i0.bytes * n ≤ 281474976710656 := by rw [hz2]; omega
  have b2 : n ≤ maxLen := by unfold maxLen; omega
  go_enter Tryd.func10, Tryd.ntmps10
  go_wp2_with (at_make
               refine wpList_make_full _ rfl (.tmp 6) (.tmp 6) _ rfl w.heap.size 41 i0 _ 5 hU hi0 hz0 hz1 .i64 .i64 (n : Int) (n : Int) n rfl rfl rfl rfl b1 b2 (Nat.le_refl _) ?_
               intro w1 own1 gr1
               have hb1 : Below w.heap.size w w1 := (Below.refl _ _).grown gr1 (Nat.le_refl _) (by simp)
               clear gr1)
  go_loopw [4] (fun i wr => ∃ (k : Nat) (Z : List Value), k ≤ n ∧ i = .int .i64 k ∧ wr.ownsRow w.heap.size 41 5 (.slice (some ⟨w.heap.size, 0, none⟩) n n) n Z ∧ Hid (Z.take (k * 5) = rcells (X.take k)) ∧ Hid (Below w.heap.size w wr)) (fun i _ => n - (intOf i).toNat)
  case atStart => exact ⟨0, _, Nat.zero_le _, rfl, own1, by simp [Hid, rcells], hb1⟩
  case round =>
    obtain ⟨k, Z, hk, rfl, hown, hu, hbr⟩ := hrel
    have hz := hide hown.1
    have Hown := hide hown
    clear hown
    by_cases hlt : k < n
    · obtain ⟨a, ha⟩ : ∃ a, X[k]? = some a := ⟨X[k]'(by have := hl.out; omega), List.getElem?_eq_getElem _⟩
      obtain ⟨g, off, rfl, hg, hc0, hc1, hc2, hc3, hc4⟩ := (HX.out.below hbr.out).at' ha
      have hsz := hbr.out.size
      have hE : Hid (rcells (X.take (k + 1)) = rcells (X.take k) ++ [Value.int .i64 a.1, Value.int .i64 a.2.1, Value.int .i64 a.2.2.1, Value.string a.2.2.2.1, Value.string a.2.2.2.2]) := by
        rw [List.take_add_one, ha, rcells_app]; rfl
      clear ha
      go_wp2_with fail
      refine (e_toR a.1 a.2.1 a.2.2.1 a.2.2.2.1 a.2.2.2.2 _).mono ?_
      rintro e w3 ⟨rfl, hb3⟩
      have Hb3 := hide (hbr.out.trans (hb3.mono hsz))
      have Hown3 := hide (Hown.out.kept (grown_of_below hb3 (row := none)) (.inr (by simp [Value.ownBlock])))
      have hf0 : w3.frozen? ⟨w.heap.size, k * 5, none⟩ = false := Hown3.out.frozenAt (k * 5)
      have hf1 : w3.frozen? ⟨w.heap.size, k * 5 + 1, none⟩ = false := Hown3.out.frozenAt (k * 5 + 1)
      have hf2 : w3.frozen? ⟨w.heap.size, k * 5 + 2, none⟩ = false := Hown3.out.frozenAt (k * 5 + 2)
      have hf3 : w3.frozen? ⟨w.heap.size, k * 5 + 3, none⟩ = false := Hown3.out.frozenAt (k * 5 + 3)
      have hf4 : w3.frozen? ⟨w.heap.size, k * 5 + 4, none⟩ = false := Hown3.out.frozenAt (k * 5 + 4)
      have hcz : ∀ q, q < 5 → ∃ z, w3.cell? ⟨w.heap.size, k * 5 + q, none⟩ = some z := fun q hq => ⟨Z[k * 5 + q]'(by have := hz.out; omega), (Hown3.out.cellAt (k * 5 + q) (by omega)).trans (List.getElem?_eq_getElem _)⟩
      obtain ⟨z0, hcz0⟩ := hcz 0 (by omega)
      obtain ⟨z1, hcz1⟩ := hcz 1 (by omega)
      obtain ⟨z2, hcz2⟩ := hcz 2 (by omega)
      obtain ⟨z3, hcz3⟩ := hcz 3 (by omega)
      obtain ⟨z4, hcz4⟩ := hcz 4 (by omega)
      rw [Nat.add_zero] at hcz0
      have s1 := Hown3.out.stored (k * 5) (.int .i64 a.1)
      have s2 := s1.1.stored (k * 5 + 1) (.int .i64 a.2.1)
      have s3 := s2.1.stored (k * 5 + 2) (.int .i64 a.2.2.1)
      have s4 := s3.1.stored (k * 5 + 3) (.string a.2.2.2.1)
      have s5 := s4.1.stored (k * 5 + 4) (.string a.2.2.2.2)
      have S5 := hide s5.1
      have HB : Hid (Below w.heap.size w (((((w3.setCell ⟨w.heap.size, k * 5, none⟩ (.int .i64 a.1)).setCell ⟨w.heap.size, k * 5 + 1, none⟩ (.int .i64 a.2.1)).setCell ⟨w.heap.size, k * 5 + 2, none⟩ (.int .i64 a.2.2.1)).setCell ⟨w.heap.size, k * 5 + 3, none⟩ (.string a.2.2.2.1)).setCell ⟨w.heap.size, k * 5 + 4, none⟩ (.string a.2.2.2.2))) := ((((Hb3.out.setCell (Nat.le_refl _) _).setCell (Nat.le_refl _) _).setCell (Nat.le_refl _) _).setCell (Nat.le_refl _) _).setCell (Nat.le_refl _) _
      have H : Hid ((((((Z.set (k * 5) (.int .i64 a.1)).set (k * 5 + 1) (.int .i64 a.2.1)).set (k * 5 + 2) (.int .i64 a.2.2.1)).set (k * 5 + 3) (.string a.2.2.2.1)).set (k * 5 + 4) (.string a.2.2.2.2)).take ((k + 1) * 5) = rcells (X.take (k + 1))) := by
        show _ = _
        rw [hE.out, ← hu.out, show (k + 1) * 5 = k * 5 + 5 by omega]
        exact set5_take (by have := hz.out; omega) _ _ _ _ _
      clear hb3 s1 s2 s3 s4 s5 hcz
      go_wp2_with fail
      go_roundw
      case rel => exact ⟨k + 1, _, by omega, by go_num, S5.out, H, HB.out⟩
      case measure => simp [intOf]; omega
    · have HZ : Hid (Z = rcells X) := by
        have h1 := hu.out
        rw [List.take_of_length_le (by have := hz.out; omega), List.take_of_length_le (by have := hl.out; omega)] at h1
        exact h1
      go_wp2_with fail
      go_ret
      exact ⟨rfl, by rw [← HZ.out]; exact Hown.out, hbr.out⟩

theorem Later.eqR {B : Nat} {W : World} (z : Later B W) (k i d : Int) (s t : ByteArray) (hB : B ≤ W.heap.size) :
    Calls Tryd.prog 22 #[.agg #[.int .i64 k, .int .i64 i, .int .i64 d, .string s, .string t], .agg #[.int .i64 k, .int .i64 i, .int .i64 d, .string s, .string t]] z.it fun e w'' => e = .returned (.bool true) ∧ ∃ z' : Later B W, w'' = z'.it := by
  have hsz := z.below.size
  exact Later.call ((e_eqR k i d s t z.it).mono fun e w' ⟨h1, h2⟩ => ⟨h1, h2.mono (by omega)⟩)
theorem Rcs.later {w W : World} {B n k : Nat} {A : Option Addr} {X : List Rec} {a : Rec} {g off : Nat} (h : Rc5 W g (off + k * 5) a) (hg : g < B) : ∀ z : Later B W, z.it.cell? ⟨g, off + k * 5, none⟩ = some (.int .i64 a.1) ∧ z.it.cell? ⟨g, off + k * 5 + 1, none⟩ = some (.int .i64 a.2.1) ∧ z.it.cell? ⟨g, off + k * 5 + 2, none⟩ = some (.int .i64 a.2.2.1) ∧ z.it.cell? ⟨g, off + k * 5 + 3, none⟩ = some (.string a.2.2.2.1) ∧ z.it.cell? ⟨g, off + k * 5 + 4, none⟩ = some (.string a.2.2.2.2) := fun z =>
  ⟨(z.cell hg).trans h.1, (z.cell hg).trans h.2.1, (z.cell hg).trans h.2.2.1, (z.cell hg).trans h.2.2.2.1, (z.cell hg).trans h.2.2.2.2⟩
set_option maxHeartbeats 2000000 in
set_option maxRecDepth 100000 in
theorem e_eqRs (A : Option Addr) (n c : Nat) (B : Option Addr) (m d : Nat) (X : List Rec) (w : World) (hL : Rcs w w.heap.size A n X) (hM : Rcs w w.heap.size B m X) (hn : n ≤ maxLen) :
    Calls Tryd.prog 11 #[.slice A n c, .slice B m d] w fun e w' => e = .returned (.bool true) ∧ Below w.heap.size w w' := by
  unfold maxLen at hn
  have hnm : n = m := hL.1.symm.trans hM.1
  subst hnm
  have hl := hide hL.1
  have HL := hide hL
  have HM := hide hM
  clear hL hM
  go_enter Tryd.func11, Tryd.ntmps11
  go_wp2_with fail
  go_loopw [5] (fun i wr => ∃ k : Nat, k ≤ n ∧ i = .int .i64 k ∧ Hid (Below w.heap.size w wr)) (fun i _ => n - (intOf i).toNat)
  case atStart => exact ⟨0, Nat.zero_le _, rfl, Below.refl _ _⟩
  case round =>
    obtain ⟨k, hk, rfl, hbr⟩ := hrel
    rename_i wr
    by_cases hlt : k < n
    · obtain ⟨a, ha⟩ : ∃ a, X[k]? = some a := ⟨X[k]'(by have := hl.out; omega), List.getElem?_eq_getElem _⟩
      obtain ⟨g, off, rfl, hg, hc⟩ := (HL.out.below hbr.out).at' ha
      obtain ⟨g2, off2, rfl, hg2, hd⟩ := (HM.out.below hbr.out).at' ha
      have hzc := Rcs.later (w := w) (n := n) (A := none) (X := X) hc hg
      have hzd := Rcs.later (w := w) (n := n) (A := none) (X := X) hd hg2
      obtain ⟨r1, r2, r3, r4, r5⟩ := a
      have hz0 := fun z => (hzc z).1
      have hz1 := fun z => (hzc z).2.1
      have hz2 := fun z => (hzc z).2.2.1
      have hz3 := fun z => (hzc z).2.2.2.1
      have hz4 := fun z => (hzc z).2.2.2.2
      have hy0 := fun z => (hzd z).1
      have hy1 := fun z => (hzd z).2.1
      have hy2 := fun z => (hzd z).2.2.1
      have hy3 := fun z => (hzd z).2.2.2.1
      have hy4 := fun z => (hzd z).2.2.2.2
      have hsz := hbr.out.size
      clear hc hd ha hzc hzd
      simp only at hz0 hz1 hz2 hz3 hz4 hy0 hy1 hy2 hy3 hy4
      go_wp2_with fail
      refine wp_region_later (B := w.heap.size) (by kernel_rfl) (by kernel_rfl) ?_
      repeat (go_big_quiet_step ((go_at_call 22; exact Later.eqR _ _ _ _ _ _ hsz)))
      refine wpQuiet_nil ?_
      intro _ hw'
      obtain ⟨⟨w5, hb5⟩, hw''⟩ := hw'
      subst hw''
      have Hb5 := hide hb5
      clear hb5
      go_wp2_with fail
      go_roundw
      case rel => exact ⟨k + 1, by omega, by go_num, hbr.out.trans Hb5.out⟩
      case measure => simp [intOf]; omega
    · go_wp2_with fail
      go_ret
      exact ⟨rfl, hbr.out⟩
end Go.Proofs.YtmofnmklodmkmaaDoor
