/- postIdValid, boxIdsValid, Box.valid, BoxesValid of the program. -/
import Derived.Test.YtfncmkmhdddmiaaBxw
import Derived.Test.YtfncmkmhdddmiaaNv
import Derived.Test.YtfncmkmhdddmiaaLater
import Derived.Outline
set_option linter.unusedVariables false
set_option linter.unusedSimpArgs false
namespace Go.Proofs.Ytfncmkmhdddmiaa
open Go.RowKit Go.BigFrame

theorem p_id (i : Int) (w : World) :
    Calls Try.prog 47 #[.int .i64 i] w fun e w' => e = .returned (.bool (inR i)) ∧ w = w' := by
  by_cases h1 : 1 ≤ i
  · have H : Hid (inR i = decide (i ≤ 999)) := by show _ = _; unfold inR; simp [h1]
    go_enter Try.func47, Try.ntmps47
    go_wp2_with fail
    go_ret
    exact ⟨ret_bool H.out.symm, rfl⟩
  · have H : Hid (inR i = false) := inR_f (by omega)
    go_enter Try.func47, Try.ntmps47
    go_wp2_with fail
    go_ret
    exact ⟨ret_bool H.out.symm, rfl⟩
theorem p_idt {i : Int} {b : Bool} (h : inR i = b) (w : World) :
    Calls Try.prog 47 #[.int .i64 i] w fun e w' => e = .returned (.bool b) ∧ w = w' := by
  subst h; exact p_id i w
theorem p_id' {B : Nat} {W : World} (z : Later B W) {i : Int} {b : Bool} (h : inR i = b) :
    Calls Try.prog 47 #[.int .i64 i] z.it fun e w'' => e = .returned (.bool b) ∧ ∃ z' : Later B W, w'' = z'.it := by
  subst h; exact Later.same (p_id i _)

set_option maxHeartbeats 1000000 in
theorem i_ids (A : Option Addr) (n c : Nat) (L : List Int) (w : World) (hX : Ints w w.heap.size A n L) (hn : n ≤ maxLen) :
    Calls Try.prog 46 #[.slice A n c] w fun e w' => e = .returned (.bool (idsB L)) ∧ Below w.heap.size w w' := by
  unfold maxLen at hn
  have hl := hide hX.1
  by_cases h6 : 6 < n
  · have H : Hid (idsB L = false) := idsB_len (by have := hl.out; omega)
    clear hX
    go_enter Try.func46, Try.ntmps46
    go_wp2_with fail
    go_ret
    exact ⟨ret_bool H.out.symm, Below.refl _ _⟩
  have HX := hide hX
  clear hX
  go_enter Try.func46, Try.ntmps46
  go_wp2_with fail
  go_loopw [3, 4, 10] (fun _ _ i wr => ∃ k : Nat, k ≤ n ∧ i = .int .i64 k ∧ Hid (IUpto L k) ∧ Hid (Below w.heap.size w wr)) (fun _ _ i _ => n - (intOf i).toNat)
  case atStart => exact ⟨0, Nat.zero_le _, rfl, IUpto.zero L, Below.refl _ _⟩
  case round =>
    obtain ⟨k, hk, rfl, hu, hbr⟩ := hrel
    by_cases hlt : k < n
    · obtain ⟨a, ha⟩ : ∃ a, L[k]? = some a := ⟨L[k]'(by have := hl.out; omega), List.getElem?_eq_getElem _⟩
      obtain ⟨g, off, rfl, hg, hc0⟩ := (HX.out.below hbr.out).at' ha
      have hsz := hbr.out.size
      cases h1 : inR a
      · have H : Hid (idsB L = false) := idsB_bad ha h1
        have H1 := hide h1
        clear ha h1
        go_wp2_with fail
        refine (p_idt H1.out _).mono ?_
        rintro e w' ⟨rfl, rfl⟩
        go_wp2_with fail
        go_ret
        exact ⟨ret_bool H.out.symm, hbr.out⟩
      have H1 := hide h1
      rcases k with _ | k
      · have H : Hid (IUpto L 1) := IUpto.one ha h1
        clear ha h1
        rw [Nat.add_zero] at hc0
        go_wp2_with fail
        refine (p_idt H1.out _).mono ?_
        rintro e w' ⟨rfl, rfl⟩
        go_wp2_with fail
        go_roundw
        case rel => exact ⟨1, by omega, by go_num, H, hbr.out⟩
        case measure => simp [intOf]; omega
      · obtain ⟨r, hr⟩ : ∃ r, L[k]? = some r := ⟨L[k]'(by have := hl.out; omega), List.getElem?_eq_getElem _⟩
        obtain ⟨g', off', e1, _, hr0⟩ := (HX.out.below hbr.out).at' hr
        injection e1 with e1
        injection e1 with e1 e2
        subst e1 e2
        have hz2 : wr.cell? ⟨g, off + k, none⟩ = some (.int .i64 r) := hr0
        have hk1 : (k : Int) + 1 < (n : Int) := by omega
        by_cases hrs : r ≤ a
        · have H : Hid (idsB L = false) := idsB_turn hr ha hrs
          clear ha hr h1 hr0
          go_wp2_with fail
          refine (p_idt H1.out _).mono ?_
          rintro e w' ⟨rfl, rfl⟩
          go_wp2_with fail
          go_ret
          exact ⟨ret_bool H.out.symm, hbr.out⟩
        · have H : Hid (IUpto L (k + 2)) := hu.out.more hr ha h1 (by omega)
          clear ha hr h1 hr0
          go_wp2_with fail
          refine (p_idt H1.out _).mono ?_
          rintro e w' ⟨rfl, rfl⟩
          go_wp2_with fail
          go_roundw
          case rel => exact ⟨k + 2, by omega, by go_num, H, hbr.out⟩
          case measure => simp [intOf]; omega
    · have H : Hid (idsB L = true) := IUpto.all (by have h1 := hu.out; have h2 := hl.out; rw [h2]; rw [show n = k by omega]; exact h1) (by have := hl.out; omega)
      go_wp2_with fail
      go_ret
      exact ⟨ret_bool H.out.symm, hbr.out⟩

set_option maxHeartbeats 1000000 in
theorem b_valid (s : ByteArray) (A : Option Addr) (n c : Nat) (F : List Int) (w : World) (hF : Ints w w.heap.size A n F) (hn : n ≤ maxLen) (hs : s.size ≤ maxLen) :
    Calls Try.prog 64 #[.agg #[.string s, .slice A n c]] w fun e w' => e = .returned (.bool (bxB (s, F))) ∧ Below w.heap.size w w' := by
  have hl := hide hF.1
  have HF := hide hF
  have HN := hide hn
  have Hs := hide hs
  clear hF hs
  unfold maxLen at hn
  have Ha : ∀ T, Hid (Below w.heap.size w (w.alloc (.cells #[.string s, .slice A n c] T))) := fun T => (Below.refl _ _).alloc (Nat.le_refl _) _
  have HF' : ∀ T, Hid (Ints (w.alloc (.cells #[.string s, .slice A n c] T)) (w.alloc (.cells #[.string s, .slice A n c] T)).heap.size A n F) := fun T => hide (HF.out.on (Ha T).out)
  have Ha := hide Ha
  go_enter Try.func64, Try.ntmps64
  go_wp2_with fail
  refine (i_NameValid s _ Hs.out).mono ?_
  rintro e w' ⟨rfl, rfl⟩
  cases h1 : nvB s
  · have H : Hid (bxB (s, F) = false) := bxB_1 h1
    go_wp2_with fail
    go_ret
    exact ⟨ret_bool H.out.symm, (Ha.out _).out⟩
  by_cases h3 : 0 < n
  · obtain ⟨b, hb⟩ : ∃ b, idsB F = b := ⟨_, rfl⟩
    have H : Hid (bxB (s, F) = b) := by
      show _ = _
      cases b
      · exact bxB_2 hb
      · exact bxB_t h1 hb (fun e => by have e2 : F = [] := e; have h := hl.out; rw [e2] at h; have h2 : 0 = n := h; omega)
    have Hb := hide hb
    clear h1 hb
    go_wp2_with fail
    refine (i_ids A n c F _ (HF' _).out HN.out).mono ?_
    rintro e w' ⟨rfl, hb1⟩
    rw [Hb.out]
    have Hb1 := hide hb1
    clear hb1
    go_wp2_with fail
    go_ret
    exact ⟨ret_bool H.out.symm, (Ha.out _).out.trans (Hb1.out.mono (by simp))⟩
  · have H : Hid (bxB (s, F) = false) := bxB_3 (List.eq_nil_of_length_eq_zero (by show F.length = 0; have := hl.out; omega))
    clear h1
    go_wp2_with fail
    go_ret
    exact ⟨ret_bool H.out.symm, (Ha.out _).out⟩

theorem b_valid' {B : Nat} {W : World} (z : Later B W) (s : ByteArray) (A : Option Addr) (n c : Nat) (F : List Int) (hF : Ints W B A n F) (hB : B ≤ W.heap.size) (hn : n ≤ maxLen) (hs : s.size ≤ maxLen) (b : Bool) (hb : bxB (s, F) = b) :
    Calls Try.prog 64 #[.agg #[.string s, .slice A n c]] z.it fun e w'' => e = .returned (.bool b) ∧ ∃ z' : Later B W, w'' = z'.it := by
  subst hb
  have hsz := z.below.size
  exact Later.call ((b_valid s A n c F z.it ((hF.below z.below).more (by omega)) hn hs).mono fun e w' ⟨h1, h2⟩ => ⟨h1, h2.mono (by omega)⟩)

set_option maxHeartbeats 2000000 in
theorem i_Bs (A : Option Addr) (n c : Nat) (X : List Bx) (w : World) (hX : Bxs w w.heap.size A n X) (hS : BSmall X) (hn : n ≤ maxLen) :
    Calls Try.prog 29 #[.slice A n c] w fun e w' => e = .returned (.bool (bxsB X)) ∧ Below w.heap.size w w' := by
  unfold maxLen at hn
  have hl := hide hX.1
  by_cases h6 : 10 < n
  · have H : Hid (bxsB X = false) := bxsB_len (by have := hl.out; omega)
    clear hX hS
    go_enter Try.func29, Try.ntmps29
    go_wp2_with fail
    go_ret
    exact ⟨ret_bool H.out.symm, Below.refl _ _⟩
  have HX := hide hX
  have HS := hide hS
  clear hX hS
  go_enter Try.func29, Try.ntmps29
  go_wp2_with fail
  go_loopw [3, 4, 10] (fun _ _ i wr => ∃ k : Nat, k ≤ n ∧ i = .int .i64 k ∧ Hid (BUpto X k) ∧ Hid (Below w.heap.size w wr)) (fun _ _ i _ => n - (intOf i).toNat)
  case atStart => exact ⟨0, Nat.zero_le _, rfl, BUpto.zero X, Below.refl _ _⟩
  case round =>
    obtain ⟨k, hk, rfl, hu, hbr⟩ := hrel
    by_cases hlt : k < n
    · obtain ⟨a, ha⟩ : ∃ a, X[k]? = some a := ⟨X[k]'(by have := hl.out; omega), List.getElem?_eq_getElem _⟩
      obtain ⟨g, off, A', n', c', rfl, hg, hc0, hc1, hn', hm', hf⟩ := (HX.out.below hbr.out).at' ha
      have hsm := HS.out a (List.mem_of_getElem? ha)
      have hsz := hbr.out.size
      have HF' : Hid (Ints (wr.alloc (.cells #[Value.string a.1, Value.slice A' n' c'] 40)) (wr.heap.size + 1) A' n' a.2) := (hf.ints.below ((Below.refl _ _).alloc hsz _)).more (by omega)
      have HB : Hid (wr.heap.size + 1 ≤ (wr.alloc (.cells #[Value.string a.1, Value.slice A' n' c'] 40)).heap.size) := by simp [Hid]
      have Hba : Hid (Below w.heap.size w (wr.alloc (.cells #[Value.string a.1, Value.slice A' n' c'] 40))) := hbr.out.alloc hsz _
      have hz0 : ∀ z : Later (wr.heap.size + 1) (wr.alloc (.cells #[Value.string a.1, Value.slice A' n' c'] 40)), z.it.cell? ⟨wr.heap.size, 0, none⟩ = some (.string a.1) := fun z => (z.cell (by omega)).trans ((Blk.new _ _ _).cell 0)
      have hz1 : ∀ z : Later (wr.heap.size + 1) (wr.alloc (.cells #[Value.string a.1, Value.slice A' n' c'] 40)), z.it.cell? ⟨wr.heap.size, 1, none⟩ = some (.slice A' n' c') := fun z => (z.cell (by omega)).trans ((Blk.new _ _ _).cell 1)
      clear hf
      cases hv : bxB a
      · have H : Hid (bxsB X = false) := bxsB_bad ha hv
        have HV : Hid (bxB (a.1, a.2) = false) := hv
        clear ha hv
        go_wp2_with fail
        refine wp_region_later (B := (wr.heap.size + 1)) (by kernel_rfl) (by kernel_rfl) ?_
        repeat (go_big_quiet_step ((go_at_call 64; exact b_valid' _ a.1 A' n' c' a.2 HF'.out HB.out hm' hsm false HV.out)))
        refine wpQuiet_nil ?_
        intro _ hw'
        obtain ⟨⟨w5, hb5⟩, hw''⟩ := hw'
        subst hw''
        have Hb5 := hide hb5
        clear hb5
        go_wp2_with fail
        go_ret
        exact ⟨ret_bool H.out.symm, Hba.out.trans (Hb5.out.mono (by omega))⟩
      · have HV : Hid (bxB (a.1, a.2) = true) := hv
        rcases k with _ | k
        · have H : Hid (BUpto X 1) := BUpto.one ha hv
          clear ha hv
          rw [Nat.zero_mul, Nat.add_zero] at hc0 hc1
          go_wp2_with fail
          refine wp_region_later (B := (wr.heap.size + 1)) (by kernel_rfl) (by kernel_rfl) ?_
          repeat (go_big_quiet_step ((go_at_call 64; exact b_valid' _ a.1 A' n' c' a.2 HF'.out HB.out hm' hsm true HV.out)))
          refine wpQuiet_nil ?_
          intro _ hw'
          obtain ⟨⟨w5, hb5⟩, hw''⟩ := hw'
          subst hw''
          have Hb5 := hide hb5
          clear hb5
          go_wp2_with fail
          go_roundw
          case rel => exact ⟨1, by omega, by go_num, H, Hba.out.trans (Hb5.out.mono (by omega))⟩
          case measure => simp [intOf]; omega
        · obtain ⟨r, hr⟩ : ∃ r, X[k]? = some r := ⟨X[k]'(by have := hl.out; omega), List.getElem?_eq_getElem _⟩
          obtain ⟨g', off', A2, n2, c2, e1, _, hr0, _⟩ := (HX.out.below hbr.out).at' hr
          injection e1 with e1
          injection e1 with e1 e2
          subst e1 e2
          have hz2 : ∀ z : Later (wr.heap.size + 1) (wr.alloc (.cells #[Value.string a.1, Value.slice A' n' c'] 40)), z.it.cell? ⟨g, off + k * 2, none⟩ = some (.string r.1) := fun z => (z.cell (by omega)).trans ((World.cell?_alloc_old _ _ _ (by simp; omega)).trans hr0)
          have hk1 : (k : Int) + 1 < (n : Int) := by omega
          cases hrs : blt r.1 a.1
          · have H : Hid (bxsB X = false) := bxsB_turn hr ha hrs
            have hrs' : Op.bytesLess r.1.toList a.1.toList = false := hrs
            clear ha hr hv hrs hr0
            go_wp2_with fail
            refine wp_region_later (B := (wr.heap.size + 1)) (by kernel_rfl) (by kernel_rfl) ?_
            repeat (go_big_quiet_step ((go_at_call 64; exact b_valid' _ a.1 A' n' c' a.2 HF'.out HB.out hm' hsm true HV.out)))
            refine wpQuiet_nil ?_
            intro _ hw'
            obtain ⟨⟨w5, hb5⟩, hw''⟩ := hw'
            subst hw''
            have Hb5 := hide hb5
            clear hb5
            go_wp2_with fail
            go_ret
            exact ⟨ret_bool H.out.symm, Hba.out.trans (Hb5.out.mono (by omega))⟩
          · have H : Hid (BUpto X (k + 2)) := hu.out.more hr ha hv hrs
            have hrs' : Op.bytesLess r.1.toList a.1.toList = true := hrs
            clear ha hr hv hrs hr0
            go_wp2_with fail
            refine wp_region_later (B := (wr.heap.size + 1)) (by kernel_rfl) (by kernel_rfl) ?_
            repeat (go_big_quiet_step ((go_at_call 64; exact b_valid' _ a.1 A' n' c' a.2 HF'.out HB.out hm' hsm true HV.out)))
            refine wpQuiet_nil ?_
            intro _ hw'
            obtain ⟨⟨w5, hb5⟩, hw''⟩ := hw'
            subst hw''
            have Hb5 := hide hb5
            clear hb5
            go_wp2_with fail
            go_roundw
            case rel => exact ⟨k + 2, by omega, by go_num, H, Hba.out.trans (Hb5.out.mono (by omega))⟩
            case measure => simp [intOf]; omega
    · have H : Hid (bxsB X = true) := BUpto.all (by have h1 := hu.out; have h2 := hl.out; rw [h2]; rw [show n = k by omega]; exact h1) (by have := hl.out; omega)
      go_wp2_with fail
      go_ret
      exact ⟨ret_bool H.out.symm, hbr.out⟩
end Go.Proofs.Ytfncmkmhdddmiaa
