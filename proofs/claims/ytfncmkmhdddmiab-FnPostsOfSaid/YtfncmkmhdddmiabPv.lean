/- PostsValid of both. -/
import Derived.Test.YtfncmkmhdddmiabPw
import Derived.Test.YtfncmkmhdddmiabNv
import Derived.Test.YtfncmkmhdddmiabLater
import Derived.Outline
set_option linter.unusedVariables false
set_option linter.unusedSimpArgs false
namespace Go.Proofs.Ytfncmkmhdddmiab
open Go.RowKit Go.BigFrame

theorem p_idV {i : Int} {b : Bool} (h : (decide (1 ≤ i) && decide (i ≤ 999)) = b) (w : World) :
    Calls Try.prog 57 #[.int .i64 i] w fun e w' => e = .returned (.bool b) ∧ w = w' := by
  by_cases h1 : 1 ≤ i
  · have H : Hid (b = decide (i ≤ 999)) := by show _ = _; rw [← h]; simp [h1]
    clear h
    go_enter Try.func57, Try.ntmps57
    go_wp2_with fail
    go_ret
    exact ⟨ret_bool H.out.symm, rfl⟩
  · have H : Hid (b = false) := by show _ = _; rw [← h]; simp [h1]
    clear h
    go_enter Try.func57, Try.ntmps57
    go_wp2_with fail
    go_ret
    exact ⟨ret_bool H.out.symm, rfl⟩

set_option maxHeartbeats 1000000 in
theorem p_valid (i : Int) (s : ByteArray) (w : World) (hs : s.size ≤ maxLen) :
    Calls Try.prog 46 #[.agg #[.int .i64 i, .string s]] w fun e w' => e = .returned (.bool (pstB (i, s))) ∧ Below w.heap.size w w' := by
  have Hs := hide hs
  clear hs
  cases h1 : (decide (1 ≤ i) && decide (i ≤ 999))
  · have H1 := hide h1
    have H : Hid (pstB (i, s) = false) := by show pstB (i, s) = false; unfold pstB; simp only [h1]; rfl
    clear h1
    go_enter Try.func46, Try.ntmps46
    go_wp2_with fail
    refine (p_idV H1.out _).mono ?_
    rintro e w' ⟨rfl, rfl⟩
    go_wp2_with fail
    go_ret
    exact ⟨ret_bool H.out.symm, (Below.refl _ _).alloc (Nat.le_refl _) _⟩
  · have H1 := hide h1
    obtain ⟨b, hb⟩ : ∃ b, nvB s = b := ⟨_, rfl⟩
    have H : Hid (pstB (i, s) = b) := by show pstB (i, s) = b; unfold pstB; simp only [h1, hb]; cases b <;> rfl
    have Hb := hide hb
    clear hb h1
    go_enter Try.func46, Try.ntmps46
    go_wp2_with fail
    refine (p_idV H1.out _).mono ?_
    rintro e w' ⟨rfl, rfl⟩
    go_wp2_with fail
    refine (i_NV Hb.out _ Hs.out).mono ?_
    rintro e w' ⟨rfl, rfl⟩
    go_wp2_with fail
    go_ret
    exact ⟨ret_bool H.out.symm, (Below.refl _ _).alloc (Nat.le_refl _) _⟩

theorem p_valid' {B : Nat} {W : World} (z : Later B W) (i : Int) (s : ByteArray) (hB : B ≤ W.heap.size) (hs : s.size ≤ maxLen) (b : Bool) (hb : pstB (i, s) = b) :
    Calls Try.prog 46 #[.agg #[.int .i64 i, .string s]] z.it fun e w'' => e = .returned (.bool b) ∧ ∃ z' : Later B W, w'' = z'.it := by
  subst hb
  have hsz := z.below.size
  exact Later.call ((p_valid i s z.it hs).mono fun e w' ⟨h1, h2⟩ => ⟨h1, h2.mono (by omega)⟩)

set_option maxHeartbeats 2000000 in
theorem i_Ps (A : Option Addr) (n c : Nat) (X : List Pst) (w : World) (hX : Psts w w.heap.size A n X) (hS : PSmall X) (hn : n ≤ maxLen) :
    Calls Try.prog 20 #[.slice A n c] w fun e w' => e = .returned (.bool (psB X)) ∧ Below w.heap.size w w' := by
  unfold maxLen at hn
  have hl := hide hX.1
  by_cases h6 : 12 < n
  · have H : Hid (psB X = false) := psB_len (by have := hl.out; omega)
    clear hX hS
    go_enter Try.func20, Try.ntmps20
    go_wp2_with fail
    go_ret
    exact ⟨ret_bool H.out.symm, Below.refl _ _⟩
  have HX := hide hX
  have HS := hide hS
  clear hX hS
  go_enter Try.func20, Try.ntmps20
  go_wp2_with fail
  go_loopw [3, 4, 10] (fun _ _ i wr => ∃ k : Nat, k ≤ n ∧ i = .int .i64 k ∧ Hid (PUpto X k) ∧ Hid (Below w.heap.size w wr)) (fun _ _ i _ => n - (intOf i).toNat)
  case atStart => exact ⟨0, Nat.zero_le _, rfl, PUpto.zero X, Below.refl _ _⟩
  case round =>
    obtain ⟨k, hk, rfl, hu, hbr⟩ := hrel
    by_cases hlt : k < n
    · obtain ⟨a, ha⟩ : ∃ a, X[k]? = some a := ⟨X[k]'(by have := hl.out; omega), List.getElem?_eq_getElem _⟩
      obtain ⟨g, off, rfl, hg, hc0, hc1⟩ := (HX.out.below hbr.out).at' ha
      have hsm := HS.out a (List.mem_of_getElem? ha)
      have hsz := hbr.out.size
      have HB : Hid (wr.heap.size + 1 ≤ (wr.alloc (.cells #[Value.int .i64 a.1, Value.string a.2] 31)).heap.size) := by simp [Hid]
      have Hba : Hid (Below w.heap.size w (wr.alloc (.cells #[Value.int .i64 a.1, Value.string a.2] 31))) := hbr.out.alloc hsz _
      have hz0 : ∀ z : Later (wr.heap.size + 1) (wr.alloc (.cells #[Value.int .i64 a.1, Value.string a.2] 31)), z.it.cell? ⟨wr.heap.size, 0, none⟩ = some (.int .i64 a.1) := fun z => (z.cell (by omega)).trans ((Blk.new _ _ _).cell 0)
      have hz1 : ∀ z : Later (wr.heap.size + 1) (wr.alloc (.cells #[Value.int .i64 a.1, Value.string a.2] 31)), z.it.cell? ⟨wr.heap.size, 1, none⟩ = some (.string a.2) := fun z => (z.cell (by omega)).trans ((Blk.new _ _ _).cell 1)
      cases hv : pstB a
      · have H : Hid (psB X = false) := psB_bad ha hv
        have HV : Hid (pstB (a.1, a.2) = false) := hv
        clear ha hv
        go_wp2_with fail
        refine wp_region_later (B := (wr.heap.size + 1)) (by kernel_rfl) (by kernel_rfl) ?_
        repeat (go_big_quiet_step ((go_at_call 46; exact p_valid' _ a.1 a.2 HB.out hsm false HV.out)))
        refine wpQuiet_nil ?_
        intro _ hw'
        obtain ⟨⟨w5, hb5⟩, hw''⟩ := hw'
        subst hw''
        have Hb5 := hide hb5
        clear hb5
        go_wp2_with fail
        go_ret
        exact ⟨ret_bool H.out.symm, Hba.out.trans (Hb5.out.mono (by omega))⟩
      · have HV : Hid (pstB (a.1, a.2) = true) := hv
        rcases k with _ | k
        · have H : Hid (PUpto X 1) := PUpto.one ha hv
          clear ha hv
          rw [Nat.zero_mul, Nat.add_zero] at hc0 hc1
          go_wp2_with fail
          refine wp_region_later (B := (wr.heap.size + 1)) (by kernel_rfl) (by kernel_rfl) ?_
          repeat (go_big_quiet_step ((go_at_call 46; exact p_valid' _ a.1 a.2 HB.out hsm true HV.out)))
          refine wpQuiet_nil ?_
          intro _ hw'
          obtain ⟨⟨w5, hb5⟩, hw''⟩ := hw'
          subst hw''
          have Hb5 := hide hb5
          clear hb5
          go_wp2_with fail
          go_roundw
          case rel => exact ⟨1, by omega, by go_num, H, Hba.out.trans (Hb5.out.mono (by omega))⟩
          case measure => simp [intOf]; omega
        · obtain ⟨r, hr⟩ : ∃ r, X[k]? = some r := ⟨X[k]'(by have := hl.out; omega), List.getElem?_eq_getElem _⟩
          obtain ⟨g', off', e1, _, hr0, _⟩ := (HX.out.below hbr.out).at' hr
          injection e1 with e1
          injection e1 with e1 e2
          subst e1 e2
          have hz2 : ∀ z : Later (wr.heap.size + 1) (wr.alloc (.cells #[Value.int .i64 a.1, Value.string a.2] 31)), z.it.cell? ⟨g, off + k * 2, none⟩ = some (.int .i64 r.1) := fun z => (z.cell (by omega)).trans ((World.cell?_alloc_old _ _ _ (by simp; omega)).trans hr0)
          have hk1 : (k : Int) + 1 < (n : Int) := by omega
          by_cases hrs : a.1 ≤ r.1
          · have H : Hid (psB X = false) := psB_turn hr ha hrs
            clear ha hr hv hr0
            go_wp2_with fail
            refine wp_region_later (B := (wr.heap.size + 1)) (by kernel_rfl) (by kernel_rfl) ?_
            repeat (go_big_quiet_step ((go_at_call 46; exact p_valid' _ a.1 a.2 HB.out hsm true HV.out)))
            refine wpQuiet_nil ?_
            intro _ hw'
            obtain ⟨⟨w5, hb5⟩, hw''⟩ := hw'
            subst hw''
            have Hb5 := hide hb5
            clear hb5
            go_wp2_with fail
            go_ret
            exact ⟨ret_bool H.out.symm, Hba.out.trans (Hb5.out.mono (by omega))⟩
          · have H : Hid (PUpto X (k + 2)) := hu.out.more hr ha hv (by omega)
            clear ha hr hv hr0
            go_wp2_with fail
            refine wp_region_later (B := (wr.heap.size + 1)) (by kernel_rfl) (by kernel_rfl) ?_
            repeat (go_big_quiet_step ((go_at_call 46; exact p_valid' _ a.1 a.2 HB.out hsm true HV.out)))
            refine wpQuiet_nil ?_
            intro _ hw'
            obtain ⟨⟨w5, hb5⟩, hw''⟩ := hw'
            subst hw''
            have Hb5 := hide hb5
            clear hb5
            go_wp2_with fail
            go_roundw
            case rel => exact ⟨k + 2, by omega, by go_num, H, Hba.out.trans (Hb5.out.mono (by omega))⟩
            case measure => simp [intOf]; omega
    · have H : Hid (psB X = true) := PUpto.all (by have h1 := hu.out; have h2 := hl.out; rw [h2]; rw [show n = k by omega]; exact h1) (by have := hl.out; omega)
      go_wp2_with fail
      go_ret
      exact ⟨ret_bool H.out.symm, hbr.out⟩
end Go.Proofs.Ytfncmkmhdddmiab
