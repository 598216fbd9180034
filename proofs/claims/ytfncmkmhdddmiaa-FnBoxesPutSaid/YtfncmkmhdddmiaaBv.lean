/- spec: l4Ids, BoxesValid. -/
import Derived.Test.YtfncmkmhdddmiaaBxw
import Derived.Test.YtfncmkmhdddmiaaNv
import Derived.Test.YtfncmkmhdddmiaaLater
import Derived.Outline
set_option linter.unusedVariables false
set_option linter.unusedSimpArgs false
namespace Go.Proofs.Ytfncmkmhdddmiaa
open Go.RowKit Go.BigFrame

theorem Later.sNV {B : Nat} {W : World} (z : Later B W) {s : ByteArray} {b : Bool} (h : nvB s = b) (hs : s.size ≤ maxLen) :
    Calls Try.prog 61 #[.string s] z.it fun e w'' => e = .returned (.bool b) ∧ ∃ z' : Later B W, w'' = z'.it := Later.same (s_NV h _ hs)
theorem Later.sIn {B : Nat} {W : World} (z : Later B W) {n : Int} {b : Bool} (h : inR n = b) :
    Calls Try.prog 53 #[.int .i64 n, .int .i64 1, .int .i64 999] z.it fun e w'' => e = .returned (.bool b) ∧ ∃ z' : Later B W, w'' = z'.it := by
  subst h; exact Later.same (s_in n 1 999 _)

set_option maxHeartbeats 1000000 in
theorem s_ids (A : Option Addr) (n c : Nat) (L : List Int) (w : World) (hX : Ints w w.heap.size A n L) (hn : n ≤ maxLen) :
    Calls Try.prog 52 #[.slice A n c] w fun e w' => e = .returned (.bool (idsB L)) ∧ Below w.heap.size w w' := by
  unfold maxLen at hn
  have hl := hide hX.1
  have HX := hide hX
  clear hX
  go_enter Try.func52, Try.ntmps52
  go_wp2_with fail
  go_loopw [3] (fun i wr => ∃ k : Nat, k ≤ n ∧ i = .int .i64 k ∧ Hid (IUpto L k) ∧ Hid (Below w.heap.size w wr)) (fun i _ => n - (intOf i).toNat)
  case atStart => exact ⟨0, Nat.zero_le _, rfl, IUpto.zero L, Below.refl _ _⟩
  case round =>
    obtain ⟨k, hk, rfl, hu, hbr⟩ := hrel
    by_cases hlt : k < n
    · obtain ⟨a, ha⟩ : ∃ a, L[k]? = some a := ⟨L[k]'(by have := hl.out; omega), List.getElem?_eq_getElem _⟩
      obtain ⟨g, off, rfl, hg, hc0⟩ := (HX.out.below hbr.out).at' ha
      have hsz := hbr.out.size
      have hz0 : ∀ z : Later w.heap.size wr, z.it.cell? ⟨g, off + k, none⟩ = some (.int .i64 a) := fun z => (z.cell hg).trans hc0
      clear hc0
      cases h1 : inR a
      · have H : Hid (idsB L = false) := idsB_bad ha h1
        have H1 := hide h1
        clear ha h1
        go_wp2_with fail
        refine wp_region_later (B := w.heap.size) (by kernel_rfl) (by kernel_rfl) ?_
        repeat (go_big_quiet_step (((go_at_call 53; exact Later.sIn _ H1.out))))
        refine wpQuiet_nil ?_
        intro _ hw'
        obtain ⟨⟨w5, hb5⟩, hw''⟩ := hw'
        subst hw''
        have Hb5 := hide hb5
        clear hb5
        go_wp2_with fail
        go_ret
        exact ⟨ret_bool H.out.symm, hbr.out.trans Hb5.out⟩
      have H1 := hide h1
      rcases k with _ | k
      · have H : Hid (IUpto L 1) := IUpto.one ha h1
        clear ha h1
        rw [Nat.add_zero] at hz0
        go_wp2_with fail
        refine wp_region_later (B := w.heap.size) (by kernel_rfl) (by kernel_rfl) ?_
        repeat (go_big_quiet_step (((go_at_call 53; exact Later.sIn _ H1.out))))
        refine wpQuiet_nil ?_
        intro _ hw'
        obtain ⟨⟨w5, hb5⟩, hw''⟩ := hw'
        subst hw''
        have Hb5 := hide hb5
        clear hb5
        go_wp2_with fail
        go_roundw
        case rel => exact ⟨1, by omega, by go_num, H, hbr.out.trans Hb5.out⟩
        case measure => simp [intOf]; omega
      · obtain ⟨r, hr⟩ : ∃ r, L[k]? = some r := ⟨L[k]'(by have := hl.out; omega), List.getElem?_eq_getElem _⟩
        obtain ⟨g', off', e1, _, hr0⟩ := (HX.out.below hbr.out).at' hr
        injection e1 with e1
        injection e1 with e1 e2
        subst e1 e2
        have hz2 : ∀ z : Later w.heap.size wr, z.it.cell? ⟨g, off + k, none⟩ = some (.int .i64 r) := fun z => (z.cell hg).trans hr0
        have hk1 : (k : Int) + 1 < (n : Int) := by omega
        by_cases hrs : r ≤ a
        · have H : Hid (idsB L = false) := idsB_turn hr ha hrs
          clear ha hr h1 hr0
          go_wp2_with fail
          refine wp_region_later (B := w.heap.size) (by kernel_rfl) (by kernel_rfl) ?_
          repeat (go_big_quiet_step (((go_at_call 53; exact Later.sIn _ H1.out))))
          refine wpQuiet_nil ?_
          intro _ hw'
          obtain ⟨⟨w5, hb5⟩, hw''⟩ := hw'
          subst hw''
          have Hb5 := hide hb5
          clear hb5
          go_wp2_with fail
          go_ret
          exact ⟨ret_bool H.out.symm, hbr.out.trans Hb5.out⟩
        · have H : Hid (IUpto L (k + 2)) := hu.out.more hr ha h1 (by omega)
          clear ha hr h1 hr0
          go_wp2_with fail
          refine wp_region_later (B := w.heap.size) (by kernel_rfl) (by kernel_rfl) ?_
          repeat (go_big_quiet_step (((go_at_call 53; exact Later.sIn _ H1.out))))
          refine wpQuiet_nil ?_
          intro _ hw'
          obtain ⟨⟨w5, hb5⟩, hw''⟩ := hw'
          subst hw''
          have Hb5 := hide hb5
          clear hb5
          go_wp2_with fail
          go_roundw
          case rel => exact ⟨k + 2, by omega, by go_num, H, hbr.out.trans Hb5.out⟩
          case measure => simp [intOf]; omega
    · have H : Hid (idsB L = decide ((n : Int) ≤ 6)) := by
        have h1 := hu.out
        have h2 := hl.out
        rw [show k = n by omega, ← h2] at h1
        by_cases h6 : L.length ≤ 6
        · exact (h1.all h6).trans (by simp; omega)
        · exact (idsB_len (by omega)).trans (by simp; omega)
      go_wp2_with fail
      go_ret
      exact ⟨ret_bool H.out.symm, hbr.out⟩
theorem Later.sIds {B : Nat} {W : World} (z : Later B W) (A : Option Addr) (n c : Nat) (L : List Int) {b : Bool} (h : idsB L = b) (hL : Ints W B A n L) (hB : B ≤ W.heap.size) (hn : n ≤ maxLen) :
    Calls Try.prog 52 #[.slice A n c] z.it fun e w'' => e = .returned (.bool b) ∧ ∃ z' : Later B W, w'' = z'.it := by
  subst h
  have hsz := z.below.size
  exact Later.call ((s_ids A n c L z.it ((hL.below z.below).more (by omega)) hn).mono fun e w' ⟨h1, h2⟩ => ⟨h1, h2.mono (by omega)⟩)

set_option maxHeartbeats 2000000 in
theorem s_Bs (A : Option Addr) (n c : Nat) (X : List Bx) (w : World) (hX : Bxs w w.heap.size A n X) (hS : BSmall X) (hn : n ≤ maxLen) :
    Calls Try.prog 33 #[.slice A n c] w fun e w' => e = .returned (.bool (bxsB X)) ∧ Below w.heap.size w w' := by
  unfold maxLen at hn
  have hl := hide hX.1
  have HX := hide hX
  have HS := hide hS
  clear hX hS
  go_enter Try.func33, Try.ntmps33
  go_wp2_with fail
  go_loopw [3] (fun i wr => ∃ k : Nat, k ≤ n ∧ i = .int .i64 k ∧ Hid (BUpto X k) ∧ Hid (Below w.heap.size w wr)) (fun i _ => n - (intOf i).toNat)
  case atStart => exact ⟨0, Nat.zero_le _, rfl, BUpto.zero X, Below.refl _ _⟩
  case round =>
    obtain ⟨k, hk, rfl, hu, hbr⟩ := hrel
    by_cases hlt : k < n
    · obtain ⟨a, ha⟩ : ∃ a, X[k]? = some a := ⟨X[k]'(by have := hl.out; omega), List.getElem?_eq_getElem _⟩
      obtain ⟨g, off, A', n', c', rfl, hg, hc0, hc1, hn', hm', hf⟩ := (HX.out.below hbr.out).at' ha
      have Hsm := hide (HS.out a (List.mem_of_getElem? ha))
      have hsz := hbr.out.size
      have HF : Hid (Ints wr w.heap.size A' n' a.2) := hf.ints
      have hlen := hide HF.out.1
      have hz0 : ∀ z : Later w.heap.size wr, z.it.cell? ⟨g, off + k * 2, none⟩ = some (.string a.1) := fun z => (z.cell hg).trans hc0
      have hz1 : ∀ z : Later w.heap.size wr, z.it.cell? ⟨g, off + k * 2 + 1, none⟩ = some (.slice A' n' c') := fun z => (z.cell hg).trans hc1
      clear hf hc0 hc1
      cases h1 : nvB a.1
      · have H : Hid (bxsB X = false) := bxsB_bad ha (bxB_1 h1)
        have H1 := hide h1
        clear ha h1
        go_wp2_with fail
        refine wp_region_later (B := w.heap.size) (by kernel_rfl) (by kernel_rfl) ?_
        repeat (go_big_quiet_step ((first | (go_at_call 61; exact Later.sNV _ H1.out Hsm.out))))
        refine wpQuiet_nil ?_
        intro _ hw'
        obtain ⟨⟨w5, hb5⟩, hw''⟩ := hw'
        subst hw''
        have Hb5 := hide hb5
        clear hb5
        go_wp2_with fail
        go_ret
        exact ⟨ret_bool H.out.symm, hbr.out.trans Hb5.out⟩
      have H1 := hide h1
      cases h2 : idsB a.2
      · have H : Hid (bxsB X = false) := bxsB_bad ha (bxB_2 h2)
        have H2 := hide h2
        clear ha h1 h2
        go_wp2_with fail
        refine wp_region_later (B := w.heap.size) (by kernel_rfl) (by kernel_rfl) ?_
        repeat (go_big_quiet_step ((first | (go_at_call 61; exact Later.sNV _ H1.out Hsm.out) | (go_at_call 52; exact Later.sIds _ A' n' c' a.2 H2.out HF.out hsz hm'))))
        refine wpQuiet_nil ?_
        intro _ hw'
        obtain ⟨⟨w5, hb5⟩, hw''⟩ := hw'
        subst hw''
        have Hb5 := hide hb5
        clear hb5
        go_wp2_with fail
        go_ret
        exact ⟨ret_bool H.out.symm, hbr.out.trans Hb5.out⟩
      have H2 := hide h2
      by_cases h3 : n' = 0
      · have H : Hid (bxsB X = false) := bxsB_bad ha (bxB_3 (List.eq_nil_of_length_eq_zero (by have := hlen.out; omega)))
        subst h3
        clear ha h1 h2
        go_wp2_with fail
        refine wp_region_later (B := w.heap.size) (by kernel_rfl) (by kernel_rfl) ?_
        repeat (go_big_quiet_step ((first | (go_at_call 61; exact Later.sNV _ H1.out Hsm.out) | (go_at_call 52; exact Later.sIds _ A' 0 c' a.2 H2.out HF.out hsz hm'))))
        refine wpQuiet_nil ?_
        intro _ hw'
        obtain ⟨⟨w5, hb5⟩, hw''⟩ := hw'
        subst hw''
        have Hb5 := hide hb5
        clear hb5
        go_wp2_with fail
        go_ret
        exact ⟨ret_bool H.out.symm, hbr.out.trans Hb5.out⟩
      have hv := bxB_t h1 h2 (fun e => h3 (by have := hlen.out; rw [e] at this; exact this.symm))
      have hn0 : ((n' : Int) == 0) = false := by rw [beq_eq_false_iff_ne]; omega
      clear h1 h2 h3
      rcases k with _ | k
      · have H : Hid (BUpto X 1) := BUpto.one ha hv
        clear ha hv
        rw [Nat.zero_mul, Nat.add_zero] at hz0 hz1
        go_wp2_with fail
        refine wp_region_later (B := w.heap.size) (by kernel_rfl) (by kernel_rfl) ?_
        repeat (go_big_quiet_step ((first | (go_at_call 61; exact Later.sNV _ H1.out Hsm.out) | (go_at_call 52; exact Later.sIds _ A' n' c' a.2 H2.out HF.out hsz hm'))))
        refine wpQuiet_nil ?_
        intro _ hw'
        obtain ⟨⟨w5, hb5⟩, hw''⟩ := hw'
        subst hw''
        have Hb5 := hide hb5
        clear hb5
        go_wp2_with fail
        go_roundw
        case rel => exact ⟨1, by omega, by go_num, H, hbr.out.trans Hb5.out⟩
        case measure => simp [intOf]; omega
      · obtain ⟨r, hr⟩ : ∃ r, X[k]? = some r := ⟨X[k]'(by have := hl.out; omega), List.getElem?_eq_getElem _⟩
        obtain ⟨g', off', A2, n2, c2, e1, _, hr0, _⟩ := (HX.out.below hbr.out).at' hr
        injection e1 with e1
        injection e1 with e1 e2
        subst e1 e2
        have hz2 : ∀ z : Later w.heap.size wr, z.it.cell? ⟨g, off + k * 2, none⟩ = some (.string r.1) := fun z => (z.cell hg).trans hr0
        have hk1 : (k : Int) + 1 < (n : Int) := by omega
        cases hrs : blt r.1 a.1
        · have H : Hid (bxsB X = false) := bxsB_turn hr ha hrs
          have hrs' : Op.bytesLess r.1.toList a.1.toList = false := hrs
          clear ha hr hv hrs hr0
          go_wp2_with fail
          refine wp_region_later (B := w.heap.size) (by kernel_rfl) (by kernel_rfl) ?_
          repeat (go_big_quiet_step ((first | (go_at_call 61; exact Later.sNV _ H1.out Hsm.out) | (go_at_call 52; exact Later.sIds _ A' n' c' a.2 H2.out HF.out hsz hm'))))
          refine wpQuiet_nil ?_
          intro _ hw'
          obtain ⟨⟨w5, hb5⟩, hw''⟩ := hw'
          subst hw''
          have Hb5 := hide hb5
          clear hb5
          go_wp2_with fail
          go_ret
          exact ⟨ret_bool H.out.symm, hbr.out.trans Hb5.out⟩
        · have H : Hid (BUpto X (k + 2)) := hu.out.more hr ha hv hrs
          have hrs' : Op.bytesLess r.1.toList a.1.toList = true := hrs
          clear ha hr hv hrs hr0
          go_wp2_with fail
          refine wp_region_later (B := w.heap.size) (by kernel_rfl) (by kernel_rfl) ?_
          repeat (go_big_quiet_step ((first | (go_at_call 61; exact Later.sNV _ H1.out Hsm.out) | (go_at_call 52; exact Later.sIds _ A' n' c' a.2 H2.out HF.out hsz hm'))))
          refine wpQuiet_nil ?_
          intro _ hw'
          obtain ⟨⟨w5, hb5⟩, hw''⟩ := hw'
          subst hw''
          have Hb5 := hide hb5
          clear hb5
          go_wp2_with fail
          go_roundw
          case rel => exact ⟨k + 2, by omega, by go_num, H, hbr.out.trans Hb5.out⟩
          case measure => simp [intOf]; omega
    · have H : Hid (bxsB X = decide ((n : Int) ≤ 10)) := by
        have h1 := hu.out
        have h2 := hl.out
        rw [show k = n by omega, ← h2] at h1
        by_cases h6 : X.length ≤ 10
        · exact (h1.all h6).trans (by simp; omega)
        · exact (bxsB_len (by omega)).trans (by simp; omega)
      go_wp2_with fail
      go_ret
      exact ⟨ret_bool H.out.symm, hbr.out⟩
end Go.Proofs.Ytfncmkmhdddmiaa
