/- Where a name stands: slices.BinarySearch, nameList.place. -/
import Derived.Test.YtohodhogbdcdmabNs3
namespace Go.Proofs.Ytohodhogbdcdmab
open Go.RowKit

set_option maxHeartbeats 1000000 in
theorem bs_any (A : Option Addr) (n c : Nat) (L : List ByteArray) (s : ByteArray) (w : World) (hL : Strs w w.heap.size A n L) (ha : Asc L) (hn : n ≤ maxLen) (hn2 : n ≤ 1000000) :
    Calls Try.prog 70 #[.slice A n c, .string s] w fun e w' => e = .returned (.tuple #[.int .i64 (pos L s), .bool (memB L s)]) ∧ w = w' := by
  unfold maxLen at hn
  have hl := hide hL.1
  have hL := hide hL.2
  have ha := hide ha
  have hp : pos L s ≤ n := by have := pos_le L s; have := hl.out; omega
  go_enter Try.func70, Try.ntmps70
  go_wp2_with fail
  go_loop [7, 8] (fun i j => ∃ lo hi : Nat, i = .int .i64 lo ∧ j = .int .i64 hi ∧ lo ≤ pos L s ∧ pos L s ≤ hi ∧ hi ≤ n) (fun i j => (intOf j - intOf i).toNat)
  case atStart => exact ⟨0, n, rfl, rfl, Nat.zero_le _, hp, Nat.le_refl _⟩
  case round =>
    obtain ⟨lo, hi, rfl, rfl, h1, h2, h3⟩ := hrel
    by_cases hlt : lo < hi
    · obtain ⟨g, off, rfl, hb, hc⟩ := hL.out (by omega)
      obtain ⟨t, ht⟩ : ∃ t, L[(lo + hi) / 2]? = some t := ⟨L[(lo + hi) / 2]'(by have := hl.out; omega), List.getElem?_eq_getElem _⟩
      have hck := hc _ t ht
      cases hts : blt t s
      · have hm : pos L s ≤ (lo + hi) / 2 := by
          rcases Nat.lt_or_ge ((lo + hi) / 2) (pos L s) with h | h
          · have := pos_lo h ht; rw [hts] at this; cases this
          · exact h
        have hts' : Op.bytesLess t.toList s.toList = false := hts
        clear hc ht hts
        go_wp2
        go_round
        case rel => exact ⟨lo, (lo + hi) / 2, rfl, by go_num, h1, hm, by omega⟩
        case measure => simp [intOf]; omega
      · have hm : (lo + hi) / 2 + 1 ≤ pos L s := by
          rcases Nat.lt_or_ge ((lo + hi) / 2) (pos L s) with h | h
          · exact h
          · have := pos_hi ha.out h ht; rw [hts] at this; cases this
        have hts' : Op.bytesLess t.toList s.toList = true := hts
        clear hc ht hts
        go_wp2
        go_round
        case rel => exact ⟨(lo + hi) / 2 + 1, hi, by go_num, rfl, hm, h2, h3⟩
        case measure => simp [intOf]; omega
    · obtain rfl : lo = pos L s := by omega
      by_cases hlt2 : pos L s < n
      · obtain ⟨g, off, rfl, hb, hc⟩ := hL.out (by omega)
        obtain ⟨t, ht⟩ : ∃ t, L[pos L s]? = some t := ⟨L[pos L s]'(by have := hl.out; omega), List.getElem?_eq_getElem _⟩
        have hck := hc _ t ht
        by_cases e : t = s
        · subst e
          have H : Hid (memB L t = true) := memB_t (List.mem_of_getElem? ht)
          clear hc ht
          go_wp2
          go_ret2
          exact ⟨by rw [H.out]; rfl, rfl⟩
        · have H : Hid (memB L s = false) := memB_f (fun h => by have := (mem_pos ha.out).1 h; rw [ht] at this; cases this; exact e rfl)
          have hne := beq_of_ne e
          clear hc ht e
          go_wp2
          go_ret2
          exact ⟨by rw [H.out]; rfl, rfl⟩
      · have H : Hid (memB L s = false) := memB_f (fun h => by have h1 := (mem_pos ha.out).1 h; have h2 := (List.getElem?_eq_some_iff.1 h1).1; have h3 := hl.out; omega)
        go_wp2
        go_ret2
        exact ⟨by rw [H.out]; rfl, rfl⟩

set_option maxHeartbeats 400000 in
theorem place_any (A : Option Addr) (n c : Nat) (L : List ByteArray) (s : ByteArray) (w : World) (hL : Strs w w.heap.size A n L) (ha : Asc L) (hn : n ≤ maxLen) (hn2 : n ≤ 1000000) :
    Calls Try.prog 51 #[.slice A n c, .string s] w fun e w' => e = .returned (.tuple #[.int .i64 (pos L s), .bool (memB L s)]) ∧ w = w' := by
  have hL := hide hL
  have ha := hide ha
  go_enter Try.func51, Try.ntmps51
  go_wp2_with fail
  refine (bs_any A n c L s _ hL.out ha.out hn hn2).mono ?_
  rintro e w' ⟨rfl, rfl⟩
  go_wp2_with fail
  go_ret2
  exact ⟨rfl, rfl⟩
end Go.Proofs.Ytohodhogbdcdmab
