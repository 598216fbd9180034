/- spec.AccountsValid. -/
import Derived.Test.YtohodhogbdcdmabAv2
set_option linter.unusedVariables false
set_option linter.unusedSimpArgs false
namespace Go.Proofs.Ytohodhogbdcdmab
open Go.RowKit Go.BigFrame

theorem Later.NV {B : Nat} {W : World} (z : Later B W) {s : ByteArray} {b : Bool} (h : nvB s = b) (hs : s.size ≤ maxLen) :
    Calls Try.prog 54 #[.string s] z.it fun e w'' => e = .returned (.bool b) ∧ ∃ z' : Later B W, w'' = z'.it := Later.same (s_NV h _ hs)
theorem Later.NsV {B : Nat} {W : World} (z : Later B W) (A : Option Addr) (n c : Nat) (L : List ByteArray) {b : Bool} (h : nsB L = b) (hL : Strs W B A n L) (hB : B ≤ W.heap.size) (hS : Small L) (hn : n ≤ maxLen) :
    Calls Try.prog 55 #[.slice A n c] z.it fun e w'' => e = .returned (.bool b) ∧ ∃ z' : Later B W, w'' = z'.it := by
  subst h
  exact Later.drew (s_NamesValid A n c L z.it ((hL.below z.below).more (by have := z.below.size; omega)) hS hn)
theorem Later.at1 {B : Nat} {W : World} (z : Later B W) (A : Option Addr) (n c : Nat) (L : List ByteArray) (s : ByteArray) {k : Int} (h : atI L s = k) (hL : Strs W B A n L) (hB : B ≤ W.heap.size) (hn : n ≤ maxLen) :
    Calls Try.prog 56 #[.slice A n c, .string s] z.it fun e w'' => e = .returned (.int .i64 k) ∧ ∃ z' : Later B W, w'' = z'.it := by
  subst h
  exact Later.same (s_at A n c L s z.it ((hL.below z.below).more (by have := z.below.size; omega)) hn)
theorem accB_1 {a : Acc} (h : nvB a.1 = false) : accB a = false := by unfold accB; rw [h]; rfl
theorem accB_2 {a : Acc} (h : nsB a.2 = false) : accB a = false := by unfold accB; rw [h, Bool.and_false]; rfl
theorem accB_3 {a : Acc} (h : memB a.2 a.1 = true) : accB a = false := by unfold accB; rw [h, Bool.not_true, Bool.and_false]
theorem accB_t {a : Acc} (h1 : nvB a.1 = true) (h2 : nsB a.2 = true) (h3 : memB a.2 a.1 = false) : accB a = true := by unfold accB; rw [h1, h2, h3]; rfl
theorem atI_t {L : List ByteArray} {s : ByteArray} (h : memB L s = true) : ∃ k : Nat, atI L s = k := ⟨L.findIdx (fun t => decide (t = s)), by unfold atI; rw [h]; rfl⟩
theorem atI_f {L : List ByteArray} {s : ByteArray} (h : memB L s = false) : atI L s = -1 := by unfold atI; rw [h]; rfl

set_option maxHeartbeats 2000000 in
theorem s_As (A : Option Addr) (n c : Nat) (X : List Acc) (w : World) (hX : Accs w w.heap.size A n X) (hS : ASmall X) (hn : n ≤ maxLen) :
    Calls Try.prog 26 #[.slice A n c] w fun e w' => e = .returned (.bool (asB X)) ∧ Below w.heap.size w w' := by
  unfold maxLen at hn
  have hl := hide hX.1
  have HX := hide hX
  have HS := hide hS
  clear hX hS
  go_enter Try.func26, Try.ntmps26
  go_wp2_with fail
  go_loopw [3] (fun i wr => ∃ k : Nat, k ≤ n ∧ i = .int .i64 k ∧ Hid (AUpto X k) ∧ Hid (Below w.heap.size w wr)) (fun i _ => n - (intOf i).toNat)
  case atStart => exact ⟨0, Nat.zero_le _, rfl, AUpto.zero X, Below.refl _ _⟩
  case round =>
    obtain ⟨k, hk, rfl, hu, hbr⟩ := hrel
    by_cases hlt : k < n
    · obtain ⟨a, ha⟩ : ∃ a, X[k]? = some a := ⟨X[k]'(by have := hl.out; omega), List.getElem?_eq_getElem _⟩
      obtain ⟨g, off, A', n', c', rfl, hg, hc0, hc1, hn', hm', hf⟩ := (HX.out.below hbr.out).at' ha
      have hsm := HS.out a (List.mem_of_getElem? ha)
      have Hsm := hide hsm
      clear hsm
      have hsz := hbr.out.size
      have HF : Hid (Strs wr w.heap.size A' n' a.2) := hf.strs
      have hz0 : ∀ z : Later w.heap.size wr, z.it.cell? ⟨g, off + k * 2, none⟩ = some (.string a.1) := fun z => (z.cell hg).trans hc0
      have hz1 : ∀ z : Later w.heap.size wr, z.it.cell? ⟨g, off + k * 2 + 1, none⟩ = some (.slice A' n' c') := fun z => (z.cell hg).trans hc1
      clear hf hc0 hc1
      cases h1 : nvB a.1
      · have H : Hid (asB X = false) := asB_bad ha (accB_1 h1)
        have H1 := hide h1
        clear ha h1
        go_wp2_with fail
        refine wp_region_later (B := w.heap.size) (by kernel_rfl) (by kernel_rfl) ?_
        repeat (go_big_quiet_step ((first | (go_at_call 54; exact Later.NV _ H1.out Hsm.out.1))))
        refine wpQuiet_nil ?_
        intro _ hw'
        obtain ⟨⟨w5, hb5⟩, hw''⟩ := hw'
        subst hw''
        have Hb5 := hide hb5
        clear hb5
        go_wp2_with fail
        go_ret
        exact ⟨ret_bool H.out.symm, hbr.out.trans Hb5.out⟩
      have H1 := hide h1
      cases h2 : nsB a.2
      · have H : Hid (asB X = false) := asB_bad ha (accB_2 h2)
        have H2 := hide h2
        clear ha h1 h2
        go_wp2_with fail
        refine wp_region_later (B := w.heap.size) (by kernel_rfl) (by kernel_rfl) ?_
        repeat (go_big_quiet_step ((first | (go_at_call 54; exact Later.NV _ H1.out Hsm.out.1) | (go_at_call 55; exact Later.NsV _ A' n' c' a.2 H2.out HF.out hsz Hsm.out.2 hm'))))
        refine wpQuiet_nil ?_
        intro _ hw'
        obtain ⟨⟨w5, hb5⟩, hw''⟩ := hw'
        subst hw''
        have Hb5 := hide hb5
        clear hb5
        go_wp2_with fail
        go_ret
        exact ⟨ret_bool H.out.symm, hbr.out.trans Hb5.out⟩
      have H2 := hide h2
      cases h3 : memB a.2 a.1
      rotate_left
      · have H : Hid (asB X = false) := asB_bad ha (accB_3 h3)
        obtain ⟨q, hq⟩ := atI_t h3
        have H3 := hide hq
        clear ha h1 h2 h3 hq
        go_wp2_with fail
        refine wp_region_later (B := w.heap.size) (by kernel_rfl) (by kernel_rfl) ?_
        repeat (go_big_quiet_step ((first | (go_at_call 54; exact Later.NV _ H1.out Hsm.out.1) | (go_at_call 55; exact Later.NsV _ A' n' c' a.2 H2.out HF.out hsz Hsm.out.2 hm') | (go_at_call 56; exact Later.at1 _ A' n' c' a.2 a.1 H3.out HF.out hsz hm'))))
        refine wpQuiet_nil ?_
        intro _ hw'
        obtain ⟨⟨w5, hb5⟩, hw''⟩ := hw'
        subst hw''
        have Hb5 := hide hb5
        clear hb5
        go_wp2_with fail
        go_ret
        exact ⟨ret_bool H.out.symm, hbr.out.trans Hb5.out⟩
      have hv := accB_t h1 h2 h3
      have H3 := hide (atI_f h3)
      clear h1 h2 h3
      rcases k with _ | k
      · have H : Hid (AUpto X 1) := AUpto.one ha hv
        clear ha hv
        rw [Nat.zero_mul, Nat.add_zero] at hz0 hz1
        go_wp2_with fail
        refine wp_region_later (B := w.heap.size) (by kernel_rfl) (by kernel_rfl) ?_
        repeat (go_big_quiet_step ((first | (go_at_call 54; exact Later.NV _ H1.out Hsm.out.1) | (go_at_call 55; exact Later.NsV _ A' n' c' a.2 H2.out HF.out hsz Hsm.out.2 hm') | (go_at_call 56; exact Later.at1 _ A' n' c' a.2 a.1 H3.out HF.out hsz hm'))))
        refine wpQuiet_nil ?_
        intro _ hw'
        obtain ⟨⟨w5, hb5⟩, hw''⟩ := hw'
        subst hw''
        have Hb5 := hide hb5
        clear hb5
        go_wp2_with fail
        go_roundw
        case rel => exact ⟨1, by omega, by go_num, H, hbr.out.trans Hb5.out⟩
        case measure => simp [intOf]; omega
      · obtain ⟨r, hr⟩ : ∃ r, X[k]? = some r := ⟨X[k]'(by have := hl.out; omega), List.getElem?_eq_getElem _⟩
        obtain ⟨g', off', A2, n2, c2, e1, _, hr0, _⟩ := (HX.out.below hbr.out).at' hr
        injection e1 with e1
        injection e1 with e1 e2
        subst e1 e2
        have hz2 : ∀ z : Later w.heap.size wr, z.it.cell? ⟨g, off + k * 2, none⟩ = some (.string r.1) := fun z => (z.cell hg).trans hr0
        have hk1 : (k : Int) + 1 < (n : Int) := by omega
        cases hrs : blt r.1 a.1
        · have H : Hid (asB X = false) := asB_turn hr ha hrs
          have hrs' : Op.bytesLess r.1.toList a.1.toList = false := hrs
          clear ha hr hv hrs hr0
          go_wp2_with fail
          refine wp_region_later (B := w.heap.size) (by kernel_rfl) (by kernel_rfl) ?_
          repeat (go_big_quiet_step ((first | (go_at_call 54; exact Later.NV _ H1.out Hsm.out.1) | (go_at_call 55; exact Later.NsV _ A' n' c' a.2 H2.out HF.out hsz Hsm.out.2 hm') | (go_at_call 56; exact Later.at1 _ A' n' c' a.2 a.1 H3.out HF.out hsz hm'))))
          refine wpQuiet_nil ?_
          intro _ hw'
          obtain ⟨⟨w5, hb5⟩, hw''⟩ := hw'
          subst hw''
          have Hb5 := hide hb5
          clear hb5
          go_wp2_with fail
          go_ret
          exact ⟨ret_bool H.out.symm, hbr.out.trans Hb5.out⟩
        · have H : Hid (AUpto X (k + 2)) := hu.out.more hr ha hv hrs
          have hrs' : Op.bytesLess r.1.toList a.1.toList = true := hrs
          clear ha hr hv hrs hr0
          go_wp2_with fail
          refine wp_region_later (B := w.heap.size) (by kernel_rfl) (by kernel_rfl) ?_
          repeat (go_big_quiet_step ((first | (go_at_call 54; exact Later.NV _ H1.out Hsm.out.1) | (go_at_call 55; exact Later.NsV _ A' n' c' a.2 H2.out HF.out hsz Hsm.out.2 hm') | (go_at_call 56; exact Later.at1 _ A' n' c' a.2 a.1 H3.out HF.out hsz hm'))))
          refine wpQuiet_nil ?_
          intro _ hw'
          obtain ⟨⟨w5, hb5⟩, hw''⟩ := hw'
          subst hw''
          have Hb5 := hide hb5
          clear hb5
          go_wp2_with fail
          go_roundw
          case rel => exact ⟨k + 2, by omega, by go_num, H, hbr.out.trans Hb5.out⟩
          case measure => simp [intOf]; omega
    · have H : Hid (asB X = decide ((n : Int) ≤ 6)) := by
        have h1 := hu.out
        have h2 := hl.out
        rw [show k = n by omega, ← h2] at h1
        by_cases h6 : X.length ≤ 6
        · exact (h1.all h6).trans (by simp; omega)
        · exact (asB_len (by omega)).trans (by simp; omega)
      go_wp2_with fail
      go_ret
      exact ⟨ret_bool H.out.symm, hbr.out⟩

set_option maxHeartbeats 1000000 in
/-- l2At: the first account with a name. -/
theorem s_l2At (A : Option Addr) (n c : Nat) (X : List Acc) (s : ByteArray) (w : World) (hX : Accs w w.heap.size A n X) (hn : n ≤ maxLen) :
    Calls Try.prog 43 #[.slice A n c, .string s] w fun e w' => e = .returned (.int .i64 (atI (nms X) s)) ∧ w = w' := by
  unfold maxLen at hn
  have hl := hide hX.1
  have HX := hide hX
  clear hX
  go_enter Try.func43, Try.ntmps43
  go_wp2_with fail
  go_loop [5] (fun i => ∃ k : Nat, k ≤ n ∧ i = .int .i64 k ∧ Hid (∀ j, j < k → (nms X)[j]? ≠ some s)) (fun i => n - (intOf i).toNat)
  case atStart => exact ⟨0, Nat.zero_le _, rfl, fun j h => absurd h (by omega)⟩
  case round =>
    obtain ⟨k, hk, rfl, hu⟩ := hrel
    by_cases hlt : k < n
    · obtain ⟨a, ha⟩ : ∃ a, X[k]? = some a := ⟨X[k]'(by have := hl.out; omega), List.getElem?_eq_getElem _⟩
      obtain ⟨g, off, A', n', c', rfl, hg, hc0, hc1, hn', hm', hf⟩ := HX.out.at' ha
      have ht := nms_at ha
      clear hf hc1
      by_cases e : a.1 = s
      · subst e
        have H : Hid (atI (nms X) a.1 = k) := atI_of ht hu.out
        clear ht ha
        go_wp2_with fail
        go_ret
        exact ⟨ret_int H.out.symm, rfl⟩
      · have hne := beq_of_ne e
        have H : Hid (∀ j, j < k + 1 → (nms X)[j]? ≠ some s) := fun j hj hs => by
          by_cases ej : j = k
          · subst ej; rw [ht] at hs; cases hs; exact e rfl
          · exact hu.out j (by omega) hs
        clear ht ha e
        go_wp2_with fail
        go_round
        case rel => exact ⟨k + 1, by omega, by go_num, H⟩
        case measure => simp [intOf]; omega
    · have H : Hid (atI (nms X) s = -1) := atI_no (not_mem_of fun j hj => hu.out j (by rw [nms_len] at hj; have := hl.out; omega))
      go_wp2_with fail
      go_ret
      exact ⟨ret_int H.out.symm, rfl⟩
end Go.Proofs.Ytohodhogbdcdmab
