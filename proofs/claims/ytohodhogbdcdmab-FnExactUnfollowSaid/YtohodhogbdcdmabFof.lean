/- slices.Clone, FollowersOf of both. -/
import Derived.Test.YtohodhogbdcdmabBook
import Derived.Test.YtohodhogbdcdmabPut
set_option linter.unusedVariables false
set_option linter.unusedSimpArgs false
namespace Go.Proofs.Ytohodhogbdcdmab
open Go.RowKit

theorem Fls.rd {w : World} {B n c : Nat} {A : Option Addr} {F : List ByteArray} (h : Fls w (· < B) (.slice A n c) F) : Rd w B 1 A n (F.map Value.string) := Rd.of_strs h.strs

set_option maxHeartbeats 1000000 in
theorem clone_any (A : Option Addr) (n c : Nat) (F : List ByteArray) (w : World) (hF : Fls w (· < w.heap.size) (.slice A n c) F) (hn2 : n ≤ 1000000) :
    Calls Try.prog 49 #[.slice A n c] w fun e w' => Own1 w F e w' := by
  obtain ⟨i0, hi0, hz0, hz1, hz2⟩ := info_parts str_info
  have hU := Try.underlying61
  have q24 : ∀ (w : World) (a : Option Addr) (n c n' c' : Nat), (binOp .eql 61 (.slice a n c) (.slice none n' c')).run Try.prog w = .ok (.bool a.isNone) w := fun w a n c n' c' => Lib.run_eql_slice_nil w _ _ a n c n' c' hU
  have HF := hide hF
  have b1 : 0 + n ≤ maxLen := by unfold maxLen; omega
  have b2 : (0 + n) * 16 ≤ 140737488355328 := by omega
  rcases A with _ | ad
  · have hl := hF.strs
    have h0 : n = 0 := by
      rcases Nat.eq_zero_or_pos n with h | h
      · exact h
      · obtain ⟨_, _, e, _⟩ := hl.2 h; cases e
    have hFe : Hid (F = []) := List.eq_nil_of_length_eq_zero (by have := hl.1; omega)
    clear hl hF h0 b1 b2
    go_enter Try.func49, Try.ntmps49
    go_wp2_with fail
    go_ret
    exact ⟨_, rfl, by rw [hFe.out]; exact OwnL.nil _ _, Below.refl _ _⟩
  · have own0 := hide (World.ownsRow_lit (size := 1) (e := 9) (base := w.heap.size) w #[] 0 (Nat.le_refl _) (Nat.zero_le _) rfl)
    have src := hide (hF.rd.alloc (Nat.le_refl _) (.cells #[] 9))
    clear hF
    go_enter Try.func49, Try.ntmps49
    go_wp2_with (
      (at_builtin
       refine wpList_append_rd _ rfl (.tmp 5) (.tmp 6) _ rfl w.heap.size 9 i0 _ 1 16 hU hi0 hz0 hz1 hz2 rfl (by omega) _ 0 [] rfl own0.out w.heap.size (some ad) n _ (F.map Value.string) rfl src.out (one_strs _) b1 b2 (by simp) ?_
       intro v4 w4 own4 gr4 at4
       have hb4 : Below w.heap.size w w4 := Below.own ((Below.refl _ _).alloc (Nat.le_refl _) _) gr4 own0.out (Nat.le_refl _) (by simp)
       clear gr4 at4))
    go_ret
    exact ⟨v4, rfl, OwnL.mk own4 (by rw [List.nil_append]), hb4⟩

theorem fol_len {X : List Acc} (h : asB X = true) (s : ByteArray) : (fol X s).length ≤ 10 := by
  by_cases hs : s ∈ nms X
  · exact nsB_le (fol_valid h hs).1
  · rw [fol_none hs]; exact Nat.zero_le _

set_option maxHeartbeats 1000000 in
theorem i_fof (A : Option Addr) (n c : Nat) (X : List Acc) (s : ByteArray) (w : World) (hX : Accs w w.heap.size A n X) (hS : ASmall X) (hn : n ≤ maxLen) (hs : s.size ≤ maxLen) :
    Calls Try.prog 22 #[.slice A n c, .string s] w fun e w' => Own1 w (folM X s) e w' := by
  have HX := hide hX
  have HS := hide hS
  have Hn := hide hn
  have Hs := hide hs
  clear hX hS hn hs
  go_enter Try.func22, Try.ntmps22
  go_wp2_with fail
  refine (i_book A n c X _ HX.out HS.out Hn.out).mono ?_
  rintro e w1 (⟨hv, rfl, hb1⟩ | ⟨hv, b, rfl, hb, hbk, hb1⟩)
  · have H := hide (folM_f (s := s) hv)
    clear hv
    go_wp2_with fail
    go_ret
    exact ⟨_, rfl, by rw [H.out]; exact OwnL.nil _ _, hb1⟩
  · have H := hide (folM_t (s := s) hv)
    have hlen := hide (fol_len hv s)
    obtain ⟨v, hrun, hf⟩ := hbk.look Hs.out
    obtain ⟨A', n', c', e, _⟩ := id hf
    subst e
    have hn' : n' ≤ 1000000 := by have h1 := hf.strs.1; have h2 := hlen.out; omega
    have Hf := hide (hf.more (ok' := (· < w1.heap.size)) (fun g hg => Nat.lt_of_lt_of_le hg hb1.size))
    have Hb1 := hide hb1
    clear hv hf hbk hb1
    go_wp2_with fail
    refine (clone_any A' n' c' _ _ Hf.out hn').mono ?_
    rintro e w2 ⟨v2, rfl, hown, hb2⟩
    go_wp2_with fail
    go_ret
    refine ⟨v2, rfl, ?_, Hb1.out.trans (hb2.mono Hb1.out.size)⟩
    rw [H.out]
    obtain ⟨A2, n2, c2, rfl, h⟩ := hown
    exact ⟨A2, n2, c2, rfl, own_base h Hb1.out.size⟩

set_option maxRecDepth 100000 in
set_option maxHeartbeats 1000000 in
theorem s_fof (A : Option Addr) (n c : Nat) (X : List Acc) (s : ByteArray) (w : World) (hX : Accs w w.heap.size A n X) (hS : ASmall X) (hn : n ≤ maxLen) :
    Calls Try.prog 29 #[.slice A n c, .string s] w fun e w' => Own1 w (folM X s) e w' := by
  obtain ⟨i0, hi0, hz0, hz1, hz2⟩ := info_parts str_info
  have hU := Try.underlying29
  have HX := hide hX
  have HS := hide hS
  have Hn := hide hn
  have hl := hide hX.1
  clear hX hS hn
  go_enter Try.func29, Try.ntmps29
  go_wp2_with fail
  refine (s_l2At A n c X s _ HX.out Hn.out).mono ?_
  rintro e w' ⟨rfl, rfl⟩
  generalize hq : atI (nms X) s = q
  have Hq := hide hq
  clear hq
  go_wp2_with fail
  refine (s_As A n c X _ HX.out HS.out Hn.out).mono ?_
  rintro e w1 ⟨rfl, hb1⟩
  have Hb1 := hide hb1
  have emp : ∀ w1 : World, Below w.heap.size w w1 → Own1 w [] (.returned (.slice (some ⟨w1.heap.size, 0, none⟩) 0 0)) (w1.alloc (.cells #[] 9)) := fun w1 hb =>
    ⟨_, rfl, ⟨_, _, _, rfl, World.ownsRow_lit w1 #[] 0 hb.size (Nat.zero_le _) rfl⟩, hb.alloc hb.size _⟩
  have Emp := hide emp
  clear hb1 emp
  cases hv : asB X
  · have H := hide (folM_f (s := s) hv)
    clear hv
    go_wp2_with fail
    go_ret
    rw [H.out]; exact Emp.out _ Hb1.out
  have H := hide (folM_t (s := s) hv)
  cases hm : memB (nms X) s
  · have hq1 := Hq.out
    rw [atI_f hm] at hq1
    have H2 := hide (fol_none (X := X) (s := s) (fun h => by rw [memB_t h] at hm; cases hm))
    have hq2 : q < 0 := by omega
    clear hv hm hq1
    go_wp2_with fail
    go_ret
    rw [H.out, H2.out]; exact Emp.out _ Hb1.out
  · obtain ⟨k, F, hk⟩ := nms_mem (memB_iff.1 hm)
    have hk2 := nms_at hk
    have hq1 : atI (nms X) s = k := atI_of hk2 (fun j hj hs => by have := (asB_asc hv).uniq hs hk2; omega)
    rw [Hq.out] at hq1
    subst hq1
    have H2 : Hid (fol X s = F) := fol_at (a := (s, F)) (asB_asc hv) hk
    obtain ⟨g, off, A', n', c', rfl, hg, hc0, hc1, hn', hm', hf⟩ := (HX.out.below Hb1.out).at' hk
    have hkn : k < n := by have h1 := hl.out; have := (List.getElem?_eq_some_iff.1 hk).1; omega
    have hlen := fol_len hv s
    rw [H2.out] at hlen
    have hn10 : n' ≤ 10 := by have h1 : F.length = n' := hf.strs.1; omega
    have hn7 : n ≤ 6 := by have := asB_6 hv; have := hl.out; omega
    have hs1 := Hb1.out.size
    have hgw : g < w1.heap.size := Nat.lt_of_lt_of_le hg hs1
    have own0 := hide (World.ownsRow_lit (size := 1) (e := 9) (base := w.heap.size) w1 #[] 0 Hb1.out.size (Nat.zero_le _) rfl)
    have src := hide (hf.rd.alloc Hb1.out.size (.cells #[] 9))
    have b1 : 0 + n' ≤ maxLen := by unfold maxLen; omega
    have b2 : (0 + n') * 16 ≤ 140737488355328 := by omega
    clear hv hm hk hk2 hlen hf hc0
    go_wp2_with (
      (at_builtin
       refine wpList_append_rd _ rfl (.tmp 17) (.tmp 22) _ rfl w.heap.size 9 i0 _ 1 16 hU hi0 hz0 hz1 hz2 rfl (by omega) _ 0 [] rfl own0.out w.heap.size A' n' _ (F.map Value.string) rfl src.out (one_strs _) b1 b2 (by simp; omega) ?_
       intro v4 w4 own4 gr4 at4
       have hb4 : Below w.heap.size w w4 := Below.own (Hb1.out.alloc Hb1.out.size _) gr4 own0.out (Nat.le_refl _) (by simp; omega)
       clear gr4 at4))
    go_ret
    rw [H.out, H2.out]
    exact ⟨v4, rfl, OwnL.mk own4 (by rw [List.nil_append]), hb4⟩
end Go.Proofs.Ytohodhogbdcdmab
