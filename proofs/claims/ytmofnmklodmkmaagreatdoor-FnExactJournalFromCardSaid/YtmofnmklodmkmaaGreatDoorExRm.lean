/- Marks of lists of records. -/
import Derived.Test.YtmofnmklodmkmaaGreatDoorExRs
import Derived.IntWalk
set_option linter.unusedVariables false
set_option linter.unusedSimpArgs false
namespace Go.Proofs.YtmofnmklodmkmaaGreatDoor
open Go.RowKit Go.BigFrame

/-- n marks from k on. -/
def markR1 (x : Nat) : Rec := ((x : Int), (x : Int) + 1, (x : Int) + 1 + 1, mkT (x + 3), mkT (x + 4))
def markR (k n : Nat) : List Rec := (List.range n).map fun j => markR1 (k + 5 * j)
theorem markR_len (k n : Nat) : (markR k n).length = n := by simp [markR]
theorem markR_at {k n j : Nat} (h : j < n) : (markR k n)[j]? = some (markR1 (k + 5 * j)) := by simp [markR, h]
theorem e_markZ (k : Nat) (z : Int) (hz : z = (k : Int)) (w : World) (hk : 1 ≤ k) (hk2 : k ≤ 100000000) :
    Calls Tryz.prog 40 #[.int .i64 z] w fun e w' => e = .returned (.string (mkT k)) ∧ Below w.heap.size w w' := by subst hz; exact e_mark k w hk hk2

set_option maxHeartbeats 2000000 in
set_option maxRecDepth 100000 in
theorem e_marksRs (base : Nat) (A : Option Addr) (n c k : Nat) (X : List Rec) (w : World) (own : w.ownsRow base 28 5 (.slice A n c) n (rcells X)) (hk : 1 ≤ k) (hk2 : k ≤ 1000000) (hn : n ≤ 1000000) :
    Calls Tryz.prog 20 #[.slice A n c, .int .i64 k] w fun e w' => e = .returned (.int .i64 ((k + 5 * n : Nat) : Int)) ∧ w'.ownsRow base 28 5 (.slice A n c) n (rcells (markR k n)) ∧ w.grownBy w' (Value.slice A n c).ownBlock := by
  rcases own_form own with ⟨rfl, rfl⟩ | ⟨b, rfl⟩
  · go_enter Tryz.func20, Tryz.ntmps20
    go_wp2_with fail
    go_loopw [1, 5] (fun r i wr => r = .int .i64 k ∧ i = .int .i64 0 ∧ wr = w) (fun _ _ _ => 0)
    case atStart => exact ⟨rfl, rfl, rfl⟩
    case round =>
      obtain ⟨rfl, rfl, rfl⟩ := hrel
      go_wp2_with fail
      go_ret
      have hL0 : X = [] := List.eq_nil_of_length_eq_zero (by have h := own.1; rw [rcells_len] at h; omega)
      rw [hL0] at own
      exact ⟨rfl, own, World.grownBy.refl _ _⟩
  · have Own := hide own
    clear own
    go_enter Tryz.func20, Tryz.ntmps20
    go_wp2_with fail
    go_loopw [1, 5] (fun r i wr => ∃ (j x : Nat) (Z : List Rec), j ≤ n ∧ r = .int .i64 x ∧ Hid (x = k + 5 * j) ∧ x ≤ 6000000 ∧ i = .int .i64 j ∧ wr.ownsRow base 28 5 (.slice (some ⟨b, 0, none⟩) n c) n (rcells Z) ∧ Hid (Z.take j = markR k j) ∧ Hid (w.grownBy wr (some b))) (fun _ i _ => n - (intOf i).toNat)
    case atStart => exact ⟨0, k, X, Nat.zero_le _, rfl, rfl, by omega, rfl, Own.out, by simp [Hid, markR], World.grownBy.refl _ _⟩
    case round =>
      obtain ⟨j, x, Z, hj, rfl, hx, hxm, rfl, hown, hu, hgr⟩ := hrel
      rename_i wr
      have hz : Hid (Z.length = n) := (Rcs.of_own hown).1
      have Hown := hide hown
      clear hown
      by_cases hlt : j < n
      · obtain ⟨a, ha⟩ : ∃ a, Z[j]? = some a := ⟨Z[j]'(by have := hz.out; omega), List.getElem?_eq_getElem _⟩
        obtain ⟨⟨c0, c1, c2, c3, c4⟩, f0, f1, f2, f3, f4⟩ := OwnR.cells Hown.out ha
        have hjz : j < Z.length := by have := hz.out; omega
        obtain ⟨r1, r2, r3, r4, r5⟩ := a
        have p0 : (wr.setCell ⟨b, j * 5, none⟩ (.int .i64 (x : Int))).ownsRow base 28 5 (.slice (some ⟨b, 0, none⟩) n c) n (rcells (Z.set j ((x : Int), r2, r3, r4, r5))) ∧ wr.grownBy (wr.setCell ⟨b, j * 5, none⟩ (.int .i64 (x : Int))) (some b) := OwnR.put (q := 0) (r := ((x : Int), r2, r3, r4, r5)) Hown.out ha (by omega) rfl
        have a0 : (Z.set j ((x : Int), r2, r3, r4, r5))[j]? = some ((x : Int), r2, r3, r4, r5) := List.getElem?_set_self hjz
        have p1 := OwnR.put (q := 1) (v := .int .i64 ((x : Int) + 1)) (r := ((x : Int), (x : Int) + 1, r3, r4, r5)) p0.1 a0 (by omega) rfl
        rw [List.set_set] at p1
        have a1 : (Z.set j ((x : Int), (x : Int) + 1, r3, r4, r5))[j]? = some ((x : Int), (x : Int) + 1, r3, r4, r5) := List.getElem?_set_self hjz
        have p2 := OwnR.put (q := 2) (v := .int .i64 ((x : Int) + 1 + 1)) (r := ((x : Int), (x : Int) + 1, (x : Int) + 1 + 1, r4, r5)) p1.1 a1 (by omega) rfl
        rw [List.set_set] at p2
        have P2 := hide p2.1
        have G2 := hide (grown_tr p0.2 (grown_tr p1.2 p2.2))
        have hm3 := fun W => e_markZ (x + 3) ((x : Int) + 1 + 1 + 1) (by omega) W (by omega) (by omega)
        have hm4 := fun W => e_markZ (x + 4) ((x : Int) + 1 + 1 + 1 + 1) (by omega) W (by omega) (by omega)
        have HM3 := hide hm3
        have HM4 := hide hm4
        have HMR : Hid (markR1 x = ((x : Int), (x : Int) + 1, (x : Int) + 1 + 1, mkT (x + 3), mkT (x + 4))) := rfl
        clear ha p0 p1 p2 a0 a1 hm3 hm4
        go_wp2_with fail
        obtain ⟨s3, h3⟩ : ∃ s, mkT (x + 3) = s := ⟨_, rfl⟩
        obtain ⟨s4, h4⟩ : ∃ s, mkT (x + 4) = s := ⟨_, rfl⟩
        rw [h3] at HM3 HMR
        rw [h4] at HM4 HMR
        clear h3 h4 c0 c1 c2 c3 c4 f0 f1 f2 f3 f4
        refine (HM3.out _).mono ?_
        rintro e w3 ⟨rfl, hb3⟩
        have P3 := hide (P2.out.kept (grown_of_below hb3 (row := none)) (.inr (by simp [Value.ownBlock])))
        have G3 := hide (grown_tb G2.out hb3)
        have a3 : (Z.set j ((x : Int), (x : Int) + 1, (x : Int) + 1 + 1, r4, r5))[j]? = some ((x : Int), (x : Int) + 1, (x : Int) + 1 + 1, r4, r5) := List.getElem?_set_self hjz
        obtain ⟨⟨c0, c1, c2, c3, c4⟩, f0, f1, f2, f3, f4⟩ := OwnR.cells P3.out a3
        have p4 := OwnR.put (q := 3) (v := .string s3) (r := ((x : Int), (x : Int) + 1, (x : Int) + 1 + 1, s3, r5)) P3.out a3 (by omega) rfl
        rw [List.set_set] at p4
        have P4 := hide p4.1
        have G4 := hide (grown_tr G3.out p4.2)
        clear hb3 p4 a3
        go_wp2_with fail
        clear c0 c1 c2 c3 c4 f0 f1 f2 f3 f4
        refine (HM4.out _).mono ?_
        rintro e w5 ⟨rfl, hb5⟩
        have P5 := hide (P4.out.kept (grown_of_below hb5 (row := none)) (.inr (by simp [Value.ownBlock])))
        have G5 := hide (grown_tb G4.out hb5)
        have a5 : (Z.set j ((x : Int), (x : Int) + 1, (x : Int) + 1 + 1, s3, r5))[j]? = some ((x : Int), (x : Int) + 1, (x : Int) + 1 + 1, s3, r5) := List.getElem?_set_self hjz
        obtain ⟨⟨c0, c1, c2, c3, c4⟩, f0, f1, f2, f3, f4⟩ := OwnR.cells P5.out a5
        have p6 := OwnR.put (q := 4) (v := .string s4) (r := ((x : Int), (x : Int) + 1, (x : Int) + 1 + 1, s3, s4)) P5.out a5 (by omega) rfl
        rw [List.set_set] at p6
        have P6 := hide p6.1
        have G6 := hide (grown_tr hgr.out (grown_tr G5.out p6.2))
        have H : Hid ((Z.set j ((x : Int), (x : Int) + 1, (x : Int) + 1 + 1, s3, s4)).take (j + 1) = markR k (j + 1)) := by
          show _ = _
          rw [List.take_add_one, List.getElem?_set_self hjz, List.take_set_of_le (Nat.le_refl _), hu.out, ← HMR.out, hx.out]
          simp [markR, List.range_succ]
        clear hb5 p6 a5
        go_wp2_with fail
        go_roundw
        case rel => exact ⟨j + 1, x + 5, _, by omega, by go_num, by show _ = _; have := hx.out; omega, by have := hx.out; omega, by go_num, P6.out, H, G6.out⟩
        case measure => simp [intOf]; omega
      · obtain rfl : j = n := by omega
        have HZ : Hid (Z = markR k j) := by have h := hu.out; rw [List.take_of_length_le (by have := hz.out; omega)] at h; exact h
        go_wp2_with fail
        go_ret
        exact ⟨by rw [← hx.out]; rfl, by rw [← HZ.out]; exact Hown.out, hgr.out⟩

theorem Later.markZ {B : Nat} {W : World} (z : Later B W) {s : ByteArray} {x : Int} (h : ∀ W, Calls Tryz.prog 40 #[.int .i64 x] W fun e w' => e = .returned (.string s) ∧ Below W.heap.size W w') (hB : B ≤ W.heap.size) :
    Calls Tryz.prog 40 #[.int .i64 x] z.it fun e w'' => e = .returned (.string s) ∧ ∃ z' : Later B W, w'' = z'.it :=
  Later.call ((h z.it).mono fun e w' ⟨h1, h2⟩ => ⟨h1, h2.mono (by have := z.below.size; omega)⟩)
set_option maxHeartbeats 2000000 in
set_option maxRecDepth 100000 in
theorem e_heldRs (A : Option Addr) (n c k : Nat) (w : World) (hL : Rcs w w.heap.size A n (markR k n)) (hk : 1 ≤ k) (hk2 : k ≤ 1000000) (hn : n ≤ 1000000) :
    Calls Tryz.prog 21 #[.slice A n c, .int .i64 k] w fun e w' => e = .returned (.int .i64 ((k + 5 * n : Nat) : Int)) ∧ Below w.heap.size w w' := by
  have HL := hide hL
  clear hL
  go_enter Tryz.func21, Tryz.ntmps21
  go_wp2_with fail
  go_loopw [1, 5] (fun r i wr => ∃ (j x : Nat), j ≤ n ∧ r = .int .i64 x ∧ Hid (x = k + 5 * j) ∧ x ≤ 6000000 ∧ i = .int .i64 j ∧ Hid (Below w.heap.size w wr)) (fun _ i _ => n - (intOf i).toNat)
  case atStart => exact ⟨0, k, Nat.zero_le _, rfl, rfl, by omega, rfl, Below.refl _ _⟩
  case round =>
    obtain ⟨j, x, hj, rfl, hx, hxm, rfl, hb⟩ := hrel
    rename_i wr
    by_cases hlt : j < n
    · obtain ⟨g, off, rfl, hg, hc⟩ := (HL.out.below hb.out).at' (markR_at hlt)
      rw [← hx.out] at hc
      have hsz := hb.out.size
      have hm3 := fun W => e_markZ (x + 3) ((x : Int) + 1 + 1 + 1) (by omega) W (by omega) (by omega)
      have hm4 := fun W => e_markZ (x + 4) ((x : Int) + 1 + 1 + 1 + 1) (by omega) W (by omega) (by omega)
      have HM3 := hide hm3
      have HM4 := hide hm4
      have hc' : Rc5 wr g (off + j * 5) ((x : Int), (x : Int) + 1, (x : Int) + 1 + 1, mkT (x + 3), mkT (x + 4)) := hc
      clear hm3 hm4 hc
      obtain ⟨s3, h3⟩ : ∃ s, mkT (x + 3) = s := ⟨_, rfl⟩
      obtain ⟨s4, h4⟩ : ∃ s, mkT (x + 4) = s := ⟨_, rfl⟩
      rw [h3] at HM3 hc'
      rw [h4] at HM4 hc'
      obtain ⟨c0, c1, c2, c3, c4⟩ := hc'
      have hz3 : ∀ z : Later w.heap.size wr, z.it.cell? ⟨g, off + j * 5 + 3, none⟩ = some (.string s3) := fun z => (z.cell hg).trans c3
      have HC4 := hide c4
      clear h3 h4
      simp only at c0 c1 c2
      go_wp2_with fail
      refine wp_region_later (B := w.heap.size) (by kernel_rfl) (by kernel_rfl) ?_
      repeat (go_big_quiet_step ((go_at_call 40; exact Later.markZ _ HM3.out hsz)))
      refine wpQuiet_nil ?_
      intro _ hw'
      obtain ⟨⟨w5, hb5⟩, hw''⟩ := hw'
      subst hw''
      have Hb5 := hide hb5
      clear hb5
      rename_i w5
      have Hw5 := hide (hb.out.trans Hb5.out)
      have hs5 : w.heap.size ≤ w5.heap.size := Hw5.out.size
      have hz4 : ∀ z : Later w.heap.size w5, z.it.cell? ⟨g, off + j * 5 + 4, none⟩ = some (.string s4) := fun z => ((z.cell hg).trans (Hb5.out.cell (p := ⟨g, off + j * 5 + 4, none⟩) hg)).trans HC4.out
      clear hz3 c0 c1 c2 c3 c4
      go_wp2_with fail
      refine wp_region_later (B := w.heap.size) (by kernel_rfl) (by kernel_rfl) ?_
      repeat (go_big_quiet_step ((go_at_call 40; exact Later.markZ _ HM4.out hs5)))
      refine wpQuiet_nil ?_
      intro _ hw'
      obtain ⟨⟨w5, hb5⟩, hw''⟩ := hw'
      subst hw''
      have Hb5 := hide hb5
      clear hb5
      go_wp2_with fail
      go_roundw
      case rel => exact ⟨j + 1, x + 5, by omega, by go_num, by show _ = _; have := hx.out; omega, by have := hx.out; omega, by go_num, Hw5.out.trans Hb5.out⟩
      case measure => simp [intOf]; omega
    · obtain rfl : j = n := by omega
      go_wp2_with fail
      go_ret
      exact ⟨by rw [← hx.out]; rfl, hb.out⟩
end Go.Proofs.YtmofnmklodmkmaaGreatDoor
