/- Lists of names: l1At, sameNames, hasName. -/
import Derived.Test.YtohodhogbdcdmabNs
import Derived.LoopTactic
namespace Go.Proofs.Ytohodhogbdcdmab
open Go.RowKit

theorem beq_of_ne {s t : ByteArray} (h : s ≠ t) : (s.toList == t.toList) = false := by
  rw [beq_eq_false_iff_ne]; exact fun e => h (toList_inj e)

/-- The first place of s, or -1. -/
def atI (L : List ByteArray) (s : ByteArray) : Int := if memB L s = true then (L.findIdx (fun t => decide (t = s)) : Int) else -1
theorem atI_of {L : List ByteArray} {s : ByteArray} {k : Nat} (h : L[k]? = some s) (hn : ∀ j, j < k → L[j]? ≠ some s) : atI L s = k := by
  unfold atI
  rw [if_pos (memB_t (List.mem_of_getElem? h))]
  obtain ⟨hk, e⟩ := List.getElem?_eq_some_iff.1 h
  have : L.findIdx (fun t => decide (t = s)) = k := by
    rw [List.findIdx_eq hk]
    refine ⟨by simp [e], fun j hj => ?_⟩
    have := hn j hj
    rw [List.getElem?_eq_getElem (by omega)] at this
    simpa using this
  rw [this]
theorem atI_no {L : List ByteArray} {s : ByteArray} (h : s ∉ L) : atI L s = -1 := by unfold atI; rw [memB_f h]; rfl
theorem not_mem_of {L : List ByteArray} {s : ByteArray} (h : ∀ j, j < L.length → L[j]? ≠ some s) : s ∉ L := fun hm => by
  obtain ⟨j, hj, e⟩ := List.mem_iff_getElem.1 hm
  exact h j hj (by rw [List.getElem?_eq_getElem hj, e])

set_option maxHeartbeats 1000000 in
theorem s_at (A : Option Addr) (n c : Nat) (L : List ByteArray) (s : ByteArray) (w : World) (hL : Strs w w.heap.size A n L) (hn : n ≤ maxLen) :
    Calls Try.prog 56 #[.slice A n c, .string s] w fun e w' => e = .returned (.int .i64 (atI L s)) ∧ w = w' := by
  unfold maxLen at hn
  have hl := hide hL.1
  have hL := hide hL.2
  go_enter Try.func56, Try.ntmps56
  go_wp2_with fail
  go_loop [5] (fun i => ∃ k : Nat, k ≤ n ∧ i = .int .i64 k ∧ Hid (∀ j, j < k → L[j]? ≠ some s)) (fun i => n - (intOf i).toNat)
  case atStart => exact ⟨0, Nat.zero_le _, rfl, fun j h => absurd h (by omega)⟩
  case round =>
    obtain ⟨k, hk, rfl, hu⟩ := hrel
    by_cases hlt : k < n
    · obtain ⟨g, off, rfl, hb, hc⟩ := hL.out (by omega)
      obtain ⟨t, ht⟩ : ∃ t, L[k]? = some t := ⟨L[k]'(by have := hl.out; omega), List.getElem?_eq_getElem _⟩
      have hck := hc k t ht
      by_cases e : t = s
      · subst e
        have H : Hid (atI L t = k) := atI_of ht hu.out
        clear ht hc
        go_wp2_with fail
        go_ret
        exact ⟨ret_int H.out.symm, rfl⟩
      · have hne := beq_of_ne e
        have H : Hid (∀ j, j < k + 1 → L[j]? ≠ some s) := fun j hj hs => by
          by_cases ej : j = k
          · subst ej; rw [ht] at hs; cases hs; exact e rfl
          · exact hu.out j (by omega) hs
        clear ht hc e
        go_wp2_with fail
        go_round
        case rel => exact ⟨k + 1, by omega, by go_num, H⟩
        case measure => simp [intOf]; omega
    · have H : Hid (atI L s = -1) := atI_no (not_mem_of fun j hj => hu.out j (by have := hl.out; omega))
      go_wp2_with fail
      go_ret
      exact ⟨ret_int H.out.symm, rfl⟩

set_option maxHeartbeats 1000000 in
theorem l_has (A : Option Addr) (n c : Nat) (L : List ByteArray) (s : ByteArray) (w : World) (hL : Strs w w.heap.size A n L) (hn : n ≤ maxLen) :
    Calls Try.prog 21 #[.slice A n c, .string s] w fun e w' => e = .returned (.bool (memB L s)) ∧ w = w' := by
  unfold maxLen at hn
  have hl := hide hL.1
  have hL := hide hL.2
  go_enter Try.func21, Try.ntmps21
  go_wp2_with fail
  go_loop [5] (fun i => ∃ k : Nat, k ≤ n ∧ i = .int .i64 k ∧ Hid (∀ j, j < k → L[j]? ≠ some s)) (fun i => n - (intOf i).toNat)
  case atStart => exact ⟨0, Nat.zero_le _, rfl, fun j h => absurd h (by omega)⟩
  case round =>
    obtain ⟨k, hk, rfl, hu⟩ := hrel
    by_cases hlt : k < n
    · obtain ⟨g, off, rfl, hb, hc⟩ := hL.out (by omega)
      obtain ⟨t, ht⟩ : ∃ t, L[k]? = some t := ⟨L[k]'(by have := hl.out; omega), List.getElem?_eq_getElem _⟩
      have hck := hc k t ht
      by_cases e : t = s
      · subst e
        have H : Hid (memB L t = true) := memB_t (List.mem_of_getElem? ht)
        clear ht hc
        go_wp2_with fail
        go_ret
        exact ⟨ret_bool H.out.symm, rfl⟩
      · have hne := beq_of_ne e
        have H : Hid (∀ j, j < k + 1 → L[j]? ≠ some s) := fun j hj hs => by
          by_cases ej : j = k
          · subst ej; rw [ht] at hs; cases hs; exact e rfl
          · exact hu.out j (by omega) hs
        clear ht hc e
        go_wp2_with fail
        go_round
        case rel => exact ⟨k + 1, by omega, by go_num, H⟩
        case measure => simp [intOf]; omega
    · have H : Hid (memB L s = false) := memB_f (not_mem_of fun j hj => hu.out j (by have := hl.out; omega))
      go_wp2_with fail
      go_ret
      exact ⟨ret_bool H.out.symm, rfl⟩

def Agree (L M : List ByteArray) (k : Nat) : Prop := ∀ j, j < k → L[j]? = M[j]?
theorem Agree.all {L M : List ByteArray} (h : Agree L M L.length) (hl : L.length = M.length) : L = M := by
  apply List.ext_getElem? ; intro j
  rcases Nat.lt_or_ge j L.length with h1 | h1
  · exact h j h1
  · rw [List.getElem?_eq_none h1, List.getElem?_eq_none (by omega)]

set_option maxHeartbeats 1000000 in
theorem l_same (A : Option Addr) (n c : Nat) (L : List ByteArray) (B : Option Addr) (m d : Nat) (M : List ByteArray) (w : World) (hL : Strs w w.heap.size A n L) (hM : Strs w w.heap.size B m M) (hn : n ≤ maxLen) (hm : m ≤ maxLen) :
    Calls Try.prog 24 #[.slice A n c, .slice B m d] w fun e w' => e = .returned (.bool (decide (L = M))) ∧ ∃ q, w' = w.drewN q := by
  unfold maxLen at hn hm
  have hl := hide hL.1
  have hL := hide hL.2
  have hml := hide hM.1
  have hM := hide hM.2
  by_cases hnm : n = m
  · subst hnm
    go_enter Try.func24, Try.ntmps24
    go_wp2_with fail
    go_loopw [5] (fun i wr => ∃ k q : Nat, k ≤ n ∧ i = .int .i64 k ∧ Hid (Agree L M k) ∧ wr = w.drewN q) (fun i _ => n - (intOf i).toNat)
    case atStart => exact ⟨0, 0, Nat.zero_le _, rfl, fun j h => absurd h (by omega), rfl⟩
    case round =>
      obtain ⟨k, q, hk, rfl, hu, rfl⟩ := hrel
      by_cases hlt : k < n
      · obtain ⟨g, off, rfl, hb, hc⟩ := hL.out (by omega)
        obtain ⟨g2, off2, rfl, hb2, hc2⟩ := hM.out (by omega)
        obtain ⟨t, ht⟩ : ∃ t, L[k]? = some t := ⟨L[k]'(by have := hl.out; omega), List.getElem?_eq_getElem _⟩
        obtain ⟨u, hu2⟩ : ∃ t, M[k]? = some t := ⟨M[k]'(by have := hml.out; omega), List.getElem?_eq_getElem _⟩
        have hck := hc k t ht
        have hck2 := hc2 k u hu2
        by_cases e : t = u
        · subst e
          have H : Hid (Agree L M (k + 1)) := fun j hj => by
            by_cases ej : j = k
            · subst ej; rw [ht, hu2]
            · exact hu.out j (by omega)
          clear ht hc hu2 hc2
          go_wp2_with fail
          go_quiet (fail)
          go_wp2_with fail
          go_roundw
          case rel => exact ⟨k + 1, _, by omega, by go_num, H, by first | rfl | exact World.drewN_drewN _ _ _⟩
          case measure => simp [intOf]; omega
        · have hne := beq_of_ne e
          have H : Hid (decide (L = M) = false) := decide_eq_false (fun h => by subst h; rw [ht] at hu2; cases hu2; exact e rfl)
          clear ht hc e hu2 hc2
          go_wp2_with fail
          go_quiet (fail)
          go_wp2_with fail
          go_ret
          exact ⟨ret_bool H.out.symm, _, World.drewN_drewN _ _ _⟩
      · have H : Hid (decide (L = M) = true) := decide_eq_true (Agree.all (by have h1 := hu.out; have h2 := hl.out; rw [h2]; rw [show n = k by omega]; exact h1) (hl.out.trans hml.out.symm))
        go_wp2_with fail
        go_ret
        exact ⟨ret_bool H.out.symm, _, rfl⟩
  · have hne : ((n : Int) != (m : Int)) = true := by rw [bne_iff_ne]; omega
    have hne2 : ((n : Int) == (m : Int)) = false := by rw [beq_eq_false_iff_ne]; omega
    have H : Hid (decide (L = M) = false) := decide_eq_false (fun h => by subst h; have h1 := hl.out; have h2 := hml.out; omega)
    go_enter Try.func24, Try.ntmps24
    go_wp2_with fail
    go_ret
    exact ⟨ret_bool H.out.symm, 0, rfl⟩
end Go.Proofs.Ytohodhogbdcdmab
