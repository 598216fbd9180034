/- spec.PostsOf, spec.PostsAuthor. -/
import Derived.Test.YtfncmkmhdddmiabPv2
import Derived.Test.YtfncmkmhdddmiabPof
set_option linter.unusedVariables false
set_option linter.unusedSimpArgs false
namespace Go.Proofs.Ytfncmkmhdddmiab
open Go.RowKit

theorem rev_at {X : List Pst} {k j : Nat} (h : j + k + 1 = X.length) : X.reverse[k]? = X[j]? := by
  rw [List.getElem?_reverse (by omega), show X.length - 1 - k = j by omega]

set_option maxHeartbeats 2000000 in
theorem s_pof (A : Option Addr) (n c : Nat) (X : List Pst) (s : ByteArray) (w : World) (hX : Psts w w.heap.size A n X) (hS : PSmall X) (hn : n ≤ maxLen) (hn2 : n ≤ 1048576) :
    Calls Try.prog 25 #[.slice A n c, .string s] w fun e w' => Own1I w (pOfM X s) e w' := by
  obtain ⟨i1, hi1, hy0, hy1, hy2⟩ := info_parts' int_info
  have hU := Try.underlying35
  have hl := hide hX.1
  have HX := hide hX
  have HS := hide hS
  obtain ⟨b, hb⟩ : ∃ b, psB X = b := ⟨_, rfl⟩
  have Hb := hide hb
  clear hX hS hb
  have h0 := (Below.refl w.heap.size w).alloc (Nat.le_refl _) (.cells #[] 3)
  have H0 := hide h0
  have own0 : (w.alloc (.cells #[] 3)).ownsRow w.heap.size 3 1 (.slice (some ⟨w.heap.size, 0, none⟩) 0 0) 0 [] := World.ownsRow_lit w #[] 0 (Nat.le_refl _) (Nat.zero_le _) rfl
  have Own0 := hide own0
  clear h0 own0
  cases b
  · have H : Hid (pOfM X s = []) := pOfM_f Hb.out
    go_enter Try.func25, Try.ntmps25
    go_wp2_with fail
    go_loopw [5, 6] (fun u i wr => i = .int .i64 ((n : Int) - 1) ∧ u = .slice (some ⟨w.heap.size, 0, none⟩) 0 0 ∧ wr.ownsRow w.heap.size 3 1 (.slice (some ⟨w.heap.size, 0, none⟩) 0 0) 0 [] ∧ Hid (Below w.heap.size w wr)) (fun _ _ _ => 0)
    case atStart => exact ⟨by simp, rfl, Own0.out, H0.out⟩
    case round =>
      obtain ⟨rfl, rfl, hown, hbr⟩ := hrel
      have Hown := hide hown
      clear hown
      by_cases hn0 : n = 0
      · have hneg : ¬ ((0 : Int) ≤ (n : Int) - 1) := by omega
        go_wp2_with fail
        go_ret
        exact ⟨_, rfl, by rw [H.out]; exact ⟨_, _, _, rfl, Hown.out⟩, hbr.out⟩
      · have hpos : (0 : Int) ≤ (n : Int) - 1 := by omega
        go_wp2_with fail
        refine (s_Ps A n c X _ ((HX.out.below hbr.out).more hbr.out.size) HS.out hn).mono ?_
        rintro e w2 ⟨rfl, hb2⟩
        rw [Hb.out]
        have Hb2 := hide (hbr.out.trans (hb2.mono hbr.out.size))
        have Hown2 := hide (Hown.out.kept (grown_of_below hb2 (row := none)) (.inr (by simp [Value.ownBlock])))
        clear hb2
        go_wp2_with fail
        go_ret
        exact ⟨_, rfl, by rw [H.out]; exact ⟨_, _, _, rfl, Hown2.out⟩, Hb2.out⟩
  · have H : Hid (pOfM X s = idsOf X.reverse s) := pOfM_t Hb.out
    have hn12 : n ≤ 12 := by have h1 := psB_12 Hb.out; have h2 := hl.out; omega
    go_enter Try.func25, Try.ntmps25
    go_wp2_with fail
    go_loopw [5, 6] (fun u i wr => ∃ (k m : Nat) (A : Option Addr) (c : Nat), k ≤ n ∧ i = .int .i64 ((n : Int) - 1 - k) ∧ m ≤ k ∧ u = .slice A m c ∧ wr.ownsRow w.heap.size 3 1 (.slice A m c) m ((idsOf (X.reverse.take k) s).map (Value.int .i64)) ∧ Hid (Below w.heap.size w wr)) (fun _ i _ => (intOf i + 1).toNat)
    case atStart => exact ⟨0, 0, _, _, Nat.zero_le _, by simp, Nat.le_refl _, rfl, Own0.out, H0.out⟩
    case round =>
      obtain ⟨k, m, A4, c4, hk, rfl, hm, rfl, hown, hbr⟩ := hrel
      have Hown := hide hown
      clear hown
      by_cases hlt : n ≤ k
      · have hneg : ¬ ((0 : Int) ≤ (n : Int) - 1 - (k : Int)) := by omega
        have hR : X.reverse.take k = X.reverse := List.take_of_length_le (by rw [rev_len]; have := hl.out; omega)
        have Hw := hide Hown.out
        rw [hR] at Hw
        clear hR
        go_wp2_with fail
        go_ret
        exact ⟨_, rfl, by rw [H.out]; exact ⟨_, _, _, rfl, Hw.out⟩, hbr.out⟩
      · obtain ⟨j, hj⟩ : ∃ j, j = n - 1 - k := ⟨_, rfl⟩
        have hji : (n : Int) - 1 - (k : Int) = (j : Int) := by omega
        have hjn : j < n := by omega
        rw [hji]
        have Hji := hide hji
        have Hj := hide hj
        clear hj hji
        obtain ⟨a, ha⟩ : ∃ a, X[j]? = some a := ⟨X[j]'(by have := hl.out; omega), List.getElem?_eq_getElem _⟩
        have hra : X.reverse[k]? = some a := by rw [rev_at (j := j) (by have := hl.out; have := Hj.out; omega)]; exact ha
        have hsz := hbr.out.size
        go_wp2_with fail
        refine (s_Ps A n c X _ ((HX.out.below hbr.out).more hsz) HS.out hn).mono ?_
        rintro e w2 ⟨rfl, hb2⟩
        rw [Hb.out]
        have Hb2 := hide (hbr.out.trans (hb2.mono hsz))
        have Hown2 := hide (Hown.out.kept (grown_of_below hb2 (row := none)) (by cases (Value.slice A4 m c4).ownBlock <;> simp))
        obtain ⟨g, off, rfl, hg, hc0, hc1⟩ := (HX.out.below Hb2.out).at' ha
        have hbs := Hb2.out.size
        clear hb2 ha
        by_cases e : a.2 = s
        · subst e
          have hE : Hid ((idsOf (X.reverse.take k) a.2).map (Value.int .i64) ++ [Value.int .i64 a.1] = (idsOf (X.reverse.take (k + 1)) a.2).map (Value.int .i64)) := by
            rw [idsOf_yes hra rfl, List.map_append]; rfl
          have b1 : m + 1 ≤ maxLen := by unfold maxLen; omega
          have b2 : (m + 1) * 8 ≤ 140737488355328 := by omega
          clear hra
          go_wp2_with (
            (at_builtin
             refine wpList_append_rd _ rfl (.tmp 26) (.tmp 32) _ rfl w.heap.size 3 i1 _ 1 8 hU hi1 hy0 hy1 hy2 rfl (by omega) (.slice A4 m c4) m ((idsOf (X.reverse.take k) a.2).map (Value.int .i64)) rfl (Hown2.out.alloc _) (w2.heap.size + 1) (some ⟨w2.heap.size, 0, none⟩) 1 _ [Value.int .i64 a.1] rfl (Rd.one _ _ _) (one_ints [a.1]) b1 b2 (by simp; omega) ?_
             intro v7 w7 own7 gr7 at7
             have Hb7 : Hid (Below w.heap.size w w7) := Below.own (Hb2.out.alloc hbs _) gr7 (Hown2.out.alloc _) (Nat.le_refl _) (by simp; omega)
             rw [hE.out] at own7
             obtain ⟨A7, c7, e7⟩ := own_slice own7
             subst e7
             have Hown7 := hide own7
             clear gr7 at7 own7))
          go_roundw
          case rel => exact ⟨k + 1, m + 1, A7, c7, by omega, by have := Hji.out; go_num, by omega, rfl, Hown7.out, Hb7.out⟩
          case measure => have := Hji.out; simp [intOf]; try omega
        · have hne := txt_ne e
          have hE : Hid (idsOf (X.reverse.take (k + 1)) s = idsOf (X.reverse.take k) s) := idsOf_no hra e
          clear hra e
          go_wp2_with fail
          go_roundw
          case rel => exact ⟨k + 1, m, A4, c4, by omega, by have := Hji.out; go_num, by omega, rfl, by rw [hE.out]; exact Hown2.out, Hb2.out⟩
          case measure => have := Hji.out; simp [intOf]; try omega

set_option maxHeartbeats 2000000 in
theorem s_pau (A : Option Addr) (n c : Nat) (X : List Pst) (i : Int) (w : World) (hX : Psts w w.heap.size A n X) (hS : PSmall X) (hn : n ≤ maxLen) :
    Calls Try.prog 28 #[.slice A n c, .int .i64 i] w fun e w' => e = .returned (.string (pAutM X i)) ∧ Below w.heap.size w w' := by
  have hnm := hide hn
  unfold maxLen at hn
  have hl := hide hX.1
  have HX := hide hX
  have HS := hide hS
  obtain ⟨b, hb⟩ : ∃ b, psB X = b := ⟨_, rfl⟩
  have Hb := hide hb
  clear hX hS hb
  go_enter Try.func28, Try.ntmps28
  go_wp2_with fail
  go_loopw [5] (fun v wr => ∃ (k : Nat), k ≤ n ∧ v = .int .i64 k ∧ Hid (Below w.heap.size w wr) ∧ Hid (∀ a ∈ X.take k, a.1 ≠ i)) (fun v _ => n - (intOf v).toNat)
  case atStart => exact ⟨0, Nat.zero_le _, rfl, Below.refl _ _, fun a h => by simp at h⟩
  case round =>
    obtain ⟨k, hk, rfl, hbr, hno⟩ := hrel
    have hsz := hbr.out.size
    by_cases hlt : k < n
    · go_wp2_with fail
      refine (s_Ps A n c X _ ((HX.out.below hbr.out).more hsz) HS.out hnm.out).mono ?_
      rintro e w2 ⟨rfl, hb2⟩
      rw [Hb.out]
      have Hb2 := hide (hbr.out.trans (hb2.mono hsz))
      clear hb2
      cases b
      · have H : Hid (pAutM X i = { data := #[] }) := pAutM_f Hb.out
        go_wp2_with fail
        go_ret
        exact ⟨by rw [H.out]; rfl, Hb2.out⟩
      · have H : Hid (pAutM X i = pAut X i) := pAutM_t Hb.out
        obtain ⟨a, ha⟩ : ∃ a, X[k]? = some a := ⟨X[k]'(by have := hl.out; omega), List.getElem?_eq_getElem _⟩
        obtain ⟨g, off, rfl, hg, hc0, hc1⟩ := (HX.out.below Hb2.out).at' ha
        by_cases e : a.1 = i
        · subst e
          have HN : Hid (pAut X a.1 = a.2) := pAut_at (psB_asc Hb.out) ha
          clear ha
          go_wp2_with fail
          go_ret
          exact ⟨by rw [H.out, HN.out]; rfl, Hb2.out⟩
        · have H2 : Hid (∀ b ∈ X.take (k + 1), b.1 ≠ i) := fun b hb => by
            rw [List.take_add_one, ha] at hb
            rcases List.mem_append.1 hb with h | h
            · exact hno.out b h
            · simp at h; rw [h]; exact e
          clear ha
          go_wp2_with fail
          go_roundw
          case rel => exact ⟨k + 1, by omega, by go_num, Hb2.out, H2⟩
          case measure => simp [intOf]; omega
    · have HN : Hid (pAutM X i = { data := #[] }) := by
        cases b
        · exact pAutM_f Hb.out
        · show _ = _
          rw [pAutM_t Hb.out]
          exact pAut_none fun a ha => hno.out a (by rw [List.take_of_length_le (by have := hl.out; omega)]; exact ha)
      go_wp2_with fail
      go_ret
      exact ⟨by rw [HN.out]; rfl, hbr.out⟩
end Go.Proofs.Ytfncmkmhdddmiab
