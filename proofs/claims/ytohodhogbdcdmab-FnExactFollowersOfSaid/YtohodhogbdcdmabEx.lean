/- Words of the exact laws: sizes, copies, equality of lists of strings. -/
import Derived.Test.YtohodhogbdcdmabNs3
import Derived.Test.YtohodhogbdcdmabWith
set_option linter.unusedVariables false
set_option linter.unusedSimpArgs false
namespace Go.Proofs.Ytohodhogbdcdmab
open Go.RowKit

set_option maxHeartbeats 1000000 in
theorem e_eq (A : Option Addr) (n c : Nat) (L : List ByteArray) (B : Option Addr) (m d : Nat) (M : List ByteArray) (w : World) (hL : Strs w w.heap.size A n L) (hM : Strs w w.heap.size B m M) (hn : n ≤ maxLen) (hm : m ≤ maxLen) :
    Calls Try.prog 30 #[.slice A n c, .slice B m d] w fun e w' => e = .returned (.bool (decide (L = M))) ∧ ∃ q, w' = w.drewN q := by
  unfold maxLen at hn hm
  have hl := hide hL.1
  have hL := hide hL.2
  have hml := hide hM.1
  have hM := hide hM.2
  by_cases hnm : n = m
  · subst hnm
    go_enter Try.func30, Try.ntmps30
    go_wp2_with fail
    go_loopw [5] (fun i wr => ∃ k q : Nat, k ≤ n ∧ i = .int .i64 k ∧ Hid (Agree L M k) ∧ wr = w.drewN q) (fun i _ => n - (intOf i).toNat)
    case atStart => exact ⟨0, 0, Nat.zero_le _, rfl, fun j h => absurd h (by omega), rfl⟩
    case round =>
      obtain ⟨k, q, hk, rfl, hu, rfl⟩ := hrel
      by_cases hlt : k < n
      · obtain ⟨g, off, rfl, hb, hc⟩ := hL.out (by omega)
        obtain ⟨g2, off2, rfl, hb2, hc2⟩ := hM.out (by omega)
        obtain ⟨t, ht⟩ : ∃ t, L[k]? = some t := ⟨L[k]'(by have := hl.out; omega), List.getElem?_eq_getElem _⟩
        obtain ⟨u, hu2⟩ : ∃ t, M[k]? = some t := ⟨M[k]'(by have := hml.out; omega), List.getElem?_eq_getElem _⟩
        have hck := hc k t ht
        have hck2 := hc2 k u hu2
        by_cases e : t = u
        · subst e
          have H : Hid (Agree L M (k + 1)) := fun j hj => by
            by_cases ej : j = k
            · subst ej; rw [ht, hu2]
            · exact hu.out j (by omega)
          clear ht hc hu2 hc2
          go_wp2_with fail
          go_quiet (fail)
          go_wp2_with fail
          go_roundw
          case rel => exact ⟨k + 1, _, by omega, by go_num, H, by first | rfl | exact World.drewN_drewN _ _ _⟩
          case measure => simp [intOf]; omega
        · have hne := beq_of_ne e
          have H : Hid (decide (L = M) = false) := decide_eq_false (fun h => by subst h; rw [ht] at hu2; cases hu2; exact e rfl)
          clear ht hc e hu2 hc2
          go_wp2_with fail
          go_quiet (fail)
          go_wp2_with fail
          go_ret
          exact ⟨ret_bool H.out.symm, _, World.drewN_drewN _ _ _⟩
      · have H : Hid (decide (L = M) = true) := decide_eq_true (Agree.all (by have h1 := hu.out; have h2 := hl.out; rw [h2]; rw [show n = k by omega]; exact h1) (hl.out.trans hml.out.symm))
        go_wp2_with fail
        go_ret
        exact ⟨ret_bool H.out.symm, _, rfl⟩
  · have hne : ((n : Int) != (m : Int)) = true := by rw [bne_iff_ne]; omega
    have hne2 : ((n : Int) == (m : Int)) = false := by rw [beq_eq_false_iff_ne]; omega
    have H : Hid (decide (L = M) = false) := decide_eq_false (fun h => by subst h; have h1 := hl.out; have h2 := hml.out; omega)
    go_enter Try.func30, Try.ntmps30
    go_wp2_with fail
    go_ret
    exact ⟨ret_bool H.out.symm, 0, rfl⟩

theorem e_eq_t (A : Option Addr) (n c : Nat) (B : Option Addr) (m d : Nat) (L : List ByteArray) (w : World) (hL : Strs w w.heap.size A n L) (hM : Strs w w.heap.size B m L) (hn : n ≤ maxLen) (hm : m ≤ maxLen) :
    Calls Try.prog 30 #[.slice A n c, .slice B m d] w fun e w' => e = .returned (.bool true) ∧ ∃ q, w' = w.drewN q := by
  refine (e_eq A n c L B m d L w hL hM hn hm).mono fun e w' h => ?_
  rw [decide_eq_true (rfl : L = L)] at h
  exact h
/-- A size is returned: below 0, or all is small. -/
def Sz (n : Nat) (L : List ByteArray) (left : Nat) (e : Ending) : Prop := (e = .returned (.int .i64 (-1))) ∨ ∃ r : Nat, e = .returned (.int .i64 r) ∧ r ≤ left ∧ n ≤ left ∧ ∀ s ∈ L, s.size ≤ left
set_option maxHeartbeats 1000000 in
theorem e_sz (A : Option Addr) (n c : Nat) (L : List ByteArray) (left : Nat) (w : World) (hL : Strs w w.heap.size A n L) (hS : Small L) (hn : n ≤ maxLen) (hl2 : left ≤ 1048576) :
    Calls Try.prog 71 #[.slice A n c, .int .i64 left] w fun e w' => Sz n L left e ∧ w = w' := by
  unfold maxLen at hn
  have hl := hide hL.1
  have HL := hide hL.2
  have HS := hide hS
  clear hL hS
  by_cases h0 : left < n
  · have hlt : (left : Int) < (n : Int) := by omega
    go_enter Try.func71, Try.ntmps71
    go_wp2_with fail
    go_ret
    exact ⟨.inl rfl, rfl⟩
  obtain ⟨d, rfl⟩ : ∃ d, left = d + n := ⟨left - n, by omega⟩
  go_enter Try.func71, Try.ntmps71
  go_wp2_with fail
  go_loop [1, 5] (fun r i => ∃ k x : Nat, k ≤ n ∧ i = .int .i64 k ∧ r = .int .i64 x ∧ x ≤ d ∧ Hid (∀ j s, j < k → L[j]? = some s → s.size ≤ d)) (fun _ i => n - (intOf i).toNat)
  case atStart => exact ⟨0, d, Nat.zero_le _, rfl, by simp, Nat.le_refl _, fun j s h => absurd h (by omega)⟩
  case round =>
    obtain ⟨k, x, hk, rfl, rfl, hx, hu⟩ := hrel
    by_cases hlt : k < n
    · obtain ⟨g, off, rfl, hb, hc⟩ := HL.out (by omega)
      obtain ⟨t, ht⟩ : ∃ t, L[k]? = some t := ⟨L[k]'(by have := hl.out; omega), List.getElem?_eq_getElem _⟩
      have hck := hc k t ht
      have hts := HS.out t (List.mem_of_getElem? ht)
      unfold maxLen at hts
      by_cases hxt : x < t.size
      · clear ht hc
        go_wp2_with fail
        go_ret
        exact ⟨.inl rfl, rfl⟩
      · have H : Hid (∀ j s, j < k + 1 → L[j]? = some s → s.size ≤ d) := fun j s hj hs => by
          by_cases e : j = k
          · subst e; rw [ht] at hs; cases hs; omega
          · exact hu.out j s (by omega) hs
        clear ht hc
        go_wp2_with fail
        go_round
        case rel => exact ⟨k + 1, x - t.size, by omega, by go_num, by go_num, by omega, H⟩
        case measure => simp [intOf]; omega
    · go_wp2_with fail
      go_ret
      refine ⟨.inr ⟨x, rfl, by omega, by omega, fun s hs => ?_⟩, rfl⟩
      obtain ⟨j, hj, rfl⟩ := List.mem_iff_getElem.1 hs
      have := hu.out j L[j] (by have := hl.out; omega) (List.getElem?_eq_getElem hj)
      omega

set_option maxHeartbeats 1000000 in
theorem e_to (A : Option Addr) (n c : Nat) (L : List ByteArray) (w : World) (hL : Strs w w.heap.size A n L) (hn : n ≤ 1048576) :
    Calls Try.prog 73 #[.slice A n c] w fun e w' => e = .returned (.slice (some ⟨w.heap.size, 0, none⟩) n n) ∧ w'.ownsRow w.heap.size 9 1 (.slice (some ⟨w.heap.size, 0, none⟩) n n) n (L.map Value.string) ∧ Below w.heap.size w w' := by
  obtain ⟨i0, hi0, hz0, hz1, hz2⟩ := info_parts str_info
  have hU := Try.underlying29
  have hl := hide hL.1
  have HL := hide hL.2
  clear hL
  have b1 : i0.bytes * n ≤ 281474976710656 := by rw [hz2]; omega
  have b2 : n ≤ maxLen := by unfold maxLen; omega
  go_enter Try.func73, Try.ntmps73
  go_wp2_with (at_make
               refine wpList_make_full _ rfl (.tmp 6) (.tmp 6) _ rfl w.heap.size 9 i0 _ 1 hU hi0 hz0 hz1 .i64 .i64 (n : Int) (n : Int) n rfl rfl rfl rfl b1 b2 (Nat.le_refl _) ?_
               intro w1 own1 gr1
               have hb1 : Below w.heap.size w w1 := (Below.refl _ _).grown gr1 (Nat.le_refl _) (by simp)
               clear gr1)
  go_loopw [4] (fun i wr => ∃ (k : Nat) (Z : List Value), k ≤ n ∧ i = .int .i64 k ∧ wr.ownsRow w.heap.size 9 1 (.slice (some ⟨w.heap.size, 0, none⟩) n n) n Z ∧ Hid (∀ j s, j < k → L[j]? = some s → Z[j]? = some (.string s)) ∧ Below w.heap.size w wr) (fun i _ => n - (intOf i).toNat)
  case atStart => exact ⟨0, _, Nat.zero_le _, rfl, own1, fun j s h => absurd h (by omega), hb1⟩
  case round =>
    obtain ⟨k, Z, hk, rfl, hown, hu, hbr⟩ := hrel
    have hz := hide hown.1
    by_cases hlt : k < n
    · obtain ⟨g, off, rfl, hb, hc⟩ := HL.out (by omega)
      obtain ⟨t, ht⟩ : ∃ t, L[k]? = some t := ⟨L[k]'(by have := hl.out; omega), List.getElem?_eq_getElem _⟩
      have hck : wr.cell? ⟨g, off + k, none⟩ = some (.string t) := (hbr.cell hb).trans (hc k t ht)
      obtain ⟨z, hzk⟩ : ∃ z, Z[k]? = some z := ⟨Z[k]'(by have := hz.out; omega), List.getElem?_eq_getElem _⟩
      have hcz : wr.cell? ⟨w.heap.size, k, none⟩ = some z := (hown.cellAt k (by omega)).trans hzk
      have hfz : wr.frozen? ⟨w.heap.size, k, none⟩ = false := hown.frozenAt k
      have hst := (hown.stored k (.string t)).1
      have H : Hid (∀ j s, j < k + 1 → L[j]? = some s → (Z.set k (.string t))[j]? = some (.string s)) := fun j s hj hs => by
        by_cases e : j = k
        · subst e; rw [ht] at hs; cases hs
          exact List.getElem?_set_self (by have := hz.out; omega)
        · rw [List.getElem?_set_ne (by omega)]
          exact hu.out j s (by omega) hs
      clear ht hc hzk
      go_wp2_with fail
      go_roundw
      case rel => exact ⟨k + 1, _, by omega, by go_num, hst, H, hbr.setCell (Nat.le_refl _) _⟩
      case measure => simp [intOf]; omega
    · have HZ : Hid (Z = L.map Value.string) := by
        have h1 := hz.out
        have h2 := hl.out
        have h3 := hu.out
        apply List.ext_getElem? ; intro j
        rcases Nat.lt_or_ge j n with hj | hj
        · have hs : L[j]? = some (L[j]'(by omega)) := List.getElem?_eq_getElem _
          rw [h3 j _ (by omega) hs, List.getElem?_map, hs]; rfl
        · rw [List.getElem?_eq_none (by omega), List.getElem?_eq_none (by simp; omega)]
      go_wp2_with fail
      go_ret
      exact ⟨rfl, by rw [← HZ.out]; exact hown, hbr⟩
theorem Strs.of_open {w : World} {x : Addr} {len cap : Nat} {ss : List ByteArray} (hl : len ≤ cap) (hz : ss.length = cap) (hcell : ∀ i, i < ss.length → w.cell? (x.add i) = some (.string (ss.getD i ByteArray.empty))) :
    Strs w w.heap.size (some x) len (ss.take len) := by
  refine ⟨by rw [List.length_take]; omega, fun h0 => ?_⟩
  obtain ⟨b, off, spot⟩ := x
  have h := hcell 0 (by omega)
  have hspot : spot = none := by simpa [Addr.add] using World.cell?_spot h
  subst hspot
  refine ⟨b, off, rfl, ?_, fun j s hs => ?_⟩
  · have := World.block_lt_of_cell? w _ h
    simpa [Addr.add] using this
  · have hj : j < len := by have := (List.getElem?_eq_some_iff.1 hs).1; rw [List.length_take] at this; omega
    rw [List.getElem?_take, if_pos hj] at hs
    obtain ⟨hj2, e⟩ := List.getElem?_eq_some_iff.1 hs
    have hc := hcell j hj2
    have e2 : (⟨b, off, none⟩ : Addr).add j = ⟨b, off + j, none⟩ := by unfold Addr.add; split <;> simp_all
    rw [e2] at hc
    rw [hc]
    simp [List.getD, hj2, e]

end Go.Proofs.Ytohodhogbdcdmab
