/- impl.PostsOf, impl.PostsAuthor. -/
import Derived.Test.YtfncmkmhdddmiabRev
set_option linter.unusedVariables false
set_option linter.unusedSimpArgs false
namespace Go.Proofs.Ytfncmkmhdddmiab
open Go.RowKit

theorem rev_len (X : List Pst) : X.reverse.length = X.length := List.length_reverse

set_option maxHeartbeats 2000000 in
theorem i_pof (A : Option Addr) (n c : Nat) (X : List Pst) (s : ByteArray) (w : World) (hX : Psts w w.heap.size A n X) (hS : PSmall X) (hn : n ≤ maxLen) :
    Calls Try.prog 23 #[.slice A n c, .string s] w fun e w' => Own1I w (pOfM X s) e w' := by
  obtain ⟨i1, hi1, hy0, hy1, hy2⟩ := info_parts' int_info
  have hU := Try.underlying35
  have HX := hide hX
  have HS := hide hS
  obtain ⟨b, hb⟩ : ∃ b, psB X = b := ⟨_, rfl⟩
  have Hb := hide hb
  clear hX hS hb
  go_enter Try.func23, Try.ntmps23
  go_wp2_with fail
  refine (i_link A n c X _ HX.out HS.out hn b Hb.out).mono ?_
  rintro e w1 ⟨v, rfl, hb1, hch⟩
  have Hb1 := hide hb1
  have Hch := hide hch
  clear hb1 hch
  cases b
  · have H : Hid (pOfM X s = []) := pOfM_f Hb.out
    go_wp2_with fail
    go_ret
    refine ⟨_, rfl, ?_, Hb1.out⟩
    rw [H.out]
    exact ⟨none, 0, 0, rfl, World.ownsRow_nil _ _ _ _⟩
  have hl : X.reverse.length ≤ 12 := by rw [rev_len]; exact psB_12 Hb.out
  have H : Hid (pOfM X s = idsOf X.reverse s) := pOfM_t Hb.out
  have HC : Hid (Chain w1 (· < w1.heap.size) v X.reverse) := (Hch.out rfl).more fun g hg => hg.2
  clear Hch
  generalize X.reverse = R at *
  go_wp2_with fail
  go_loopg [7, 8] R.length (fun r u v wr => ∃ (k m : Nat) (A : Option Addr) (c : Nat), k ≤ R.length ∧ R.length - k ≤ r ∧ m ≤ k ∧ u = .slice A m c ∧ wr.ownsRow w1.heap.size 3 1 (.slice A m c) m ((idsOf (R.take k) s).map (Value.int .i64)) ∧ Hid (Chain w1 (· < w1.heap.size) v (R.drop k)) ∧ Hid (Below w1.heap.size w1 wr))
  case atStart => exact ⟨0, 0, none, 0, Nat.zero_le _, by omega, Nat.le_refl _, rfl, World.ownsRow_nil _ _ _ _, HC.out, Below.refl _ _⟩
  case round =>
    obtain ⟨k, m, A4, c4, hk, hkr, hm, rfl, hown, hch, hbr⟩ := hrel
    have Hown := hide hown
    clear hown
    by_cases hlt : R.length ≤ k
    · have hv : u8 = .pointer none := by have h := hch.out; rw [List.drop_of_length_le (by omega)] at h; exact h
      subst hv
      have hR : R.take k = R := List.take_of_length_le hlt
      have Hw := hide Hown.out
      rw [hR] at Hw
      clear hR
      go_wp2_with fail
      go_ret
      refine ⟨_, rfl, ?_, Hb1.out.trans (hbr.out.mono Hb1.out.size)⟩
      rw [H.out]
      exact ⟨_, _, _, rfl, own_base Hw.out Hb1.out.size⟩
    · obtain ⟨a, ha⟩ : ∃ a, R[k]? = some a := ⟨R[k]'(by omega), List.getElem?_eq_getElem _⟩
      have h := hch.out
      rw [chain_take ha] at h
      obtain ⟨g, q, hv, hg, hq0, hq1, hq2, hq3⟩ := h
      subst hv
      have hc0 : wr.cell? ⟨g, 0, none⟩ = some (.int .i64 a.1) := (hbr.out.cell (p := ⟨g, 0, none⟩) hg).trans hq0
      have hc1 : wr.cell? ⟨g, 1, none⟩ = some (.string a.2) := (hbr.out.cell (p := ⟨g, 1, none⟩) hg).trans hq1
      have hc2 : wr.cell? ⟨g, 2, none⟩ = some q := (hbr.out.cell (p := ⟨g, 2, none⟩) hg).trans hq2
      have Hq := hide hq3
      have hbs := hbr.out.size
      have hgl : g < wr.heap.size := by omega
      clear hq0 hq1 hq2 hq3
      by_cases e : a.2 = s
      · subst e
        have hE : Hid ((idsOf (R.take k) a.2).map (Value.int .i64) ++ [Value.int .i64 a.1] = (idsOf (R.take (k + 1)) a.2).map (Value.int .i64)) := by
          rw [idsOf_yes ha rfl, List.map_append]; rfl
        have b1 : m + 1 ≤ maxLen := by unfold maxLen; omega
        have b2 : (m + 1) * 8 ≤ 140737488355328 := by omega
        clear ha
        go_wp2_with (
          (at_builtin
           refine wpList_append_rd _ rfl (.tmp 30) (.tmp 36) _ rfl w1.heap.size 3 i1 _ 1 8 hU hi1 hy0 hy1 hy2 rfl (by omega) (.slice A4 m c4) m ((idsOf (R.take k) a.2).map (Value.int .i64)) rfl (Hown.out.alloc _) (wr.heap.size + 1) (some ⟨wr.heap.size, 0, none⟩) 1 _ [Value.int .i64 a.1] rfl (Rd.one _ _ _) (one_ints [a.1]) b1 b2 (by simp; omega) ?_
           intro v7 w7 own7 gr7 at7
           have hnb : some g ≠ (Value.slice A4 m c4).ownBlock := fun e => by have := (Hown.out.lt g e.symm).1; omega
           have hd0 : w7.cell? ⟨g, 2, none⟩ = some q := (World.cell?_of_block (a := ⟨g, 2, none⟩) (gr7.block g (by simp; omega) hnb)).trans ((World.cell?_alloc_old _ _ _ (by simp; omega)).trans hc2)
           have Hb7 : Hid (Below w1.heap.size w1 w7) := Below.own (hbr.out.alloc hbs _) gr7 (Hown.out.alloc _) (Nat.le_refl _) (by simp; omega)
           rw [hE.out] at own7
           obtain ⟨A7, c7, e7⟩ := own_slice own7
           subst e7
           have Hown7 := hide own7
           clear gr7 at7 own7))
        go_roundg (R.length - (k + 1))
        case measure => omega
        case rel => exact ⟨k + 1, m + 1, A7, c7, by omega, by omega, by omega, rfl, Hown7.out, Hq.out, Hb7.out⟩
      · have hne := txt_ne e
        have hE : Hid (idsOf (R.take (k + 1)) s = idsOf (R.take k) s) := idsOf_no ha e
        clear ha e
        go_wp2_with fail
        go_roundg (R.length - (k + 1))
        case measure => omega
        case rel => exact ⟨k + 1, m, A4, c4, by omega, by omega, by omega, rfl, by rw [hE.out]; exact Hown.out, Hq.out, hbr.out⟩

set_option maxHeartbeats 2000000 in
theorem i_pau (A : Option Addr) (n c : Nat) (X : List Pst) (i : Int) (w : World) (hX : Psts w w.heap.size A n X) (hS : PSmall X) (hn : n ≤ maxLen) :
    Calls Try.prog 21 #[.slice A n c, .int .i64 i] w fun e w' => e = .returned (.string (pAutM X i)) ∧ Below w.heap.size w w' := by
  have HX := hide hX
  have HS := hide hS
  obtain ⟨b, hb⟩ : ∃ b, psB X = b := ⟨_, rfl⟩
  have Hb := hide hb
  clear hX hS hb
  go_enter Try.func21, Try.ntmps21
  go_wp2_with fail
  refine (i_link A n c X _ HX.out HS.out hn b Hb.out).mono ?_
  rintro e w1 ⟨v, rfl, hb1, hch⟩
  have Hb1 := hide hb1
  have Hch := hide hch
  clear hb1 hch
  cases b
  · have H : Hid (pAutM X i = { data := #[] }) := pAutM_f Hb.out
    go_wp2_with fail
    go_ret
    exact ⟨by rw [H.out]; rfl, Hb1.out⟩
  have H : Hid (pAutM X i = pAut X i) := pAutM_t Hb.out
  have HC : Hid (Chain w1 (Mine w.heap.size w1) v X.reverse) := Hch.out rfl
  have HP := hide (psB_asc Hb.out)
  have hmem : Hid (∀ a, a ∈ X ↔ a ∈ X.reverse) := fun a => List.mem_reverse.symm
  clear Hch
  generalize X.reverse = R at *
  go_wp2_with fail
  go_loopg [7] R.length (fun r v wr => ∃ (k : Nat), k ≤ R.length ∧ R.length - k ≤ r ∧ wr = w1 ∧ Hid (Chain w1 (Mine w.heap.size w1) v (R.drop k)) ∧ Hid (∀ a ∈ R.take k, a.1 ≠ i))
  case atStart => exact ⟨0, Nat.zero_le _, by omega, rfl, HC.out, fun a h => by simp at h⟩
  case round =>
    obtain ⟨k, hk, hkr, rfl, hch, hno⟩ := hrel
    by_cases hlt : R.length ≤ k
    · have hv : u7 = .pointer none := by have h := hch.out; rw [List.drop_of_length_le (by omega)] at h; exact h
      subst hv
      have HN : Hid (pAut X i = { data := #[] }) := pAut_none fun a ha => hno.out a (by rw [List.take_of_length_le hlt]; exact (hmem.out a).1 ha)
      go_wp2_with fail
      go_ret
      exact ⟨by rw [H.out, HN.out]; rfl, Hb1.out⟩
    · obtain ⟨a, ha⟩ : ∃ a, R[k]? = some a := ⟨R[k]'(by omega), List.getElem?_eq_getElem _⟩
      have h := hch.out
      rw [chain_take ha] at h
      obtain ⟨g, q, hv, hg, hq0, hq1, hq2, hq3⟩ := h
      subst hv
      have Hq := hide hq3
      clear hq3
      by_cases e : a.1 = i
      · subst e
        have HN : Hid (pAut X a.1 = a.2) := by
          obtain ⟨j, hj, e⟩ := List.mem_iff_getElem.1 ((hmem.out a).2 (List.mem_of_getElem? ha))
          exact pAut_at HP.out (by rw [List.getElem?_eq_getElem hj, e])
        clear ha
        go_wp2_with fail
        go_ret
        exact ⟨by rw [H.out, HN.out]; rfl, Hb1.out⟩
      · have H2 : Hid (∀ b ∈ R.take (k + 1), b.1 ≠ i) := fun b hb => by
          rw [List.take_add_one, ha] at hb
          rcases List.mem_append.1 hb with h | h
          · exact hno.out b h
          · simp at h; rw [h]; exact e
        clear ha
        go_wp2_with fail
        go_roundg (R.length - (k + 1))
        case measure => omega
        case rel => exact ⟨k + 1, by omega, by omega, rfl, Hq.out, H2⟩
end Go.Proofs.Ytfncmkmhdddmiab
