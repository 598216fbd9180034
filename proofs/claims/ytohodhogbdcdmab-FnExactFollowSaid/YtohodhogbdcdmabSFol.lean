/- spec.Follow, spec.Unfollow. -/
import Derived.Test.YtohodhogbdcdmabL2w
set_option linter.unusedVariables false
set_option linter.unusedSimpArgs false
namespace Go.Proofs.Ytohodhogbdcdmab
open Go.RowKit

theorem emptyA (w w1 : World) (hb : Below w.heap.size w w1) : OwnA w.heap.size (w1.alloc (.cells #[] 31)) (.slice (some ⟨w1.heap.size, 0, none⟩) 0 0) [] :=
  ⟨_, 0, 0, [], rfl, World.ownsRow_lit w1 #[] 0 hb.size (Nat.zero_le _) rfl, RdA.nil⟩

set_option maxHeartbeats 2000000 in
set_option maxRecDepth 100000 in
theorem s_follow (A : Option Addr) (n c : Nat) (X : List Acc) (who s : ByteArray) (w : World) (hX : Accs w w.heap.size A n X) (hS : ASmall X) (hn : n ≤ maxLen) (hs : s.size ≤ maxLen) (hw : who.size ≤ maxLen) :
    Calls Try.prog 14 #[.slice A n c, .string who, .string s] w fun e w' => Own2A w (followM X who s) e w' := by
  have HX := hide hX
  have HS := hide hS
  have Hn := hide hn
  have Hw := hide hw
  have hl := hide hX.1
  clear hX hS hn hw
  go_enter Try.func14, Try.ntmps14
  go_wp2_with fail
  refine (s_l2At A n c X s _ HX.out Hn.out).mono ?_
  rintro e w' ⟨rfl, rfl⟩
  generalize hq : atI (nms X) s = q
  have Hq := hide hq
  clear hq
  go_wp2_with fail
  refine (s_As A n c X _ HX.out HS.out Hn.out).mono ?_
  rintro e w1 ⟨rfl, hb1⟩
  have Hb1 := hide hb1
  clear hb1
  cases hv : asB X
  · have H := hide (follow_1 (who := who) (s := s) hv)
    clear hv
    go_wp2_with fail
    go_ret2
    exact ⟨_, by rw [H.out]; rfl, by rw [H.out]; exact emptyA w w1 Hb1.out, Hb1.out.alloc Hb1.out.size _⟩
  cases hm : memB (nms X) s
  · have H := hide (follow_2 (who := who) hm)
    have hq1 := Hq.out
    rw [atI_f hm] at hq1
    have hq2 : q < 0 := by omega
    clear hv hm hq1
    go_wp2_with fail
    go_ret2
    exact ⟨_, by rw [H.out]; rfl, by rw [H.out]; exact emptyA w w1 Hb1.out, Hb1.out.alloc Hb1.out.size _⟩
  obtain ⟨k, F, hk⟩ := nms_mem (memB_iff.1 hm)
  have hk2 := nms_at hk
  have hq1 : atI (nms X) s = k := atI_of hk2 (fun j hj hs => by have := (asB_asc hv).uniq hs hk2; omega)
  rw [Hq.out] at hq1
  subst hq1
  have hkn : k < n := by have h1 := hl.out; have := (List.getElem?_eq_some_iff.1 hk).1; omega
  have H2 : Hid (fol X s = F) := fol_at (a := (s, F)) (asB_asc hv) hk
  by_cases hws : who = s
  · have H : Hid (followM X who s = none) := by show _ = _; rw [hws]; exact follow_3 X s
    have hbeq : (who.toList == s.toList) = true := by rw [hws]; simp
    clear hv hm hk hk2 hws
    go_wp2_with fail
    go_ret2
    exact ⟨_, by rw [H.out]; rfl, by rw [H.out]; exact emptyA w w1 Hb1.out, Hb1.out.alloc Hb1.out.size _⟩
  have hwne := hide hws
  have hbne := beq_of_ne hws
  clear hws
  obtain ⟨g, off, A', n', c', rfl, hg, hc0, hc1, hn', hm', hf⟩ := (HX.out.below Hb1.out).at' hk
  have hs1 := Hb1.out.size
  have hgw : g < w1.heap.size := Nat.lt_of_lt_of_le hg hs1
  have Hf : Hid (Strs w1 w1.heap.size A' n' F) := hf.strs.more hs1
  have HsF : Hid (Small F) := nsB_small (asB_acc hv (List.mem_of_getElem? hk)).2.1
  have Hv := hide hv
  have Hm := hide hm
  have Hk := hide hk
  clear hv hm hk hk2 hf hc0
  go_wp2_with fail
  refine (s_NamesPut A' n' c' F who _ Hf.out HsF.out hn' hm' Hw.out).mono ?_
  rintro e w2 ⟨v2, rfl, hown2, hb2⟩
  cases ho : putM F who
  · have H := hide (follow_4 (X := X) (who := who) (s := s) (by rw [H2.out]; exact ho))
    have Hb2 := hide (Hb1.out.trans (hb2.mono hs1))
    clear hown2 hb2 ho
    go_wp2_with fail
    go_ret2
    exact ⟨_, by rw [H.out]; rfl, by rw [H.out]; exact emptyA w w2 Hb2.out, Hb2.out.alloc Hb2.out.size _⟩
  rename_i G
  rw [ho] at hown2
  have H := hide (follow_t Hv.out Hm.out hwne.out (by rw [H2.out]; exact ho))
  obtain ⟨A2, n2, c2, e2, o2⟩ := hown2
  subst e2
  have HfG : Hid (Fls w2 (fun b => w.heap.size ≤ b ∧ b < w2.heap.size) (.slice A2 n2 c2) G) := (Fls.of_own o2).more fun b hb => ⟨by omega, hb.2.1⟩
  have Hb2 := hide (Hb1.out.trans (hb2.mono hs1))
  have HX2 := hide (HX.out.below Hb2.out)
  have hn6 : n ≤ 6 := by have := asB_6 Hv.out; have := hl.out; omega
  have Hle : Hid (∀ a ∈ X, a.2.length ≤ 10) := fun a ha => nsB_le (asB_acc Hv.out ha).2.1
  have HE : Hid (withF X k G = setF X s G) := withF_setF (a := (s, F)) Hv.out Hk.out G
  clear ho o2 hb2
  go_wp2_with fail
  refine (s_with w (some ⟨g, off, none⟩) n c k X A2 n2 c2 G w2 HX2.out HS.out hn6 HfG.out Hb2.out Hle.out).mono ?_
  rintro e w3 ⟨v3, rfl, hown3, hb3⟩
  rw [HE.out] at hown3
  go_wp2_with fail
  go_ret2
  exact ⟨v3, by rw [H.out]; rfl, by rw [H.out]; exact hown3, hb3⟩

set_option maxHeartbeats 2000000 in
set_option maxRecDepth 100000 in
theorem s_unfollow (A : Option Addr) (n c : Nat) (X : List Acc) (who s : ByteArray) (w : World) (hX : Accs w w.heap.size A n X) (hS : ASmall X) (hn : n ≤ maxLen) (hs : s.size ≤ maxLen) (hw : who.size ≤ maxLen) :
    Calls Try.prog 19 #[.slice A n c, .string who, .string s] w fun e w' => Own2A w (unfollowM X who s) e w' := by
  have HX := hide hX
  have HS := hide hS
  have Hn := hide hn
  have Hw := hide hw
  have hl := hide hX.1
  clear hX hS hn hw
  go_enter Try.func19, Try.ntmps19
  go_wp2_with fail
  refine (s_l2At A n c X s _ HX.out Hn.out).mono ?_
  rintro e w' ⟨rfl, rfl⟩
  generalize hq : atI (nms X) s = q
  have Hq := hide hq
  clear hq
  go_wp2_with fail
  refine (s_As A n c X _ HX.out HS.out Hn.out).mono ?_
  rintro e w1 ⟨rfl, hb1⟩
  have Hb1 := hide hb1
  clear hb1
  cases hv : asB X
  · have H := hide (unfollow_1 (who := who) (s := s) hv)
    clear hv
    go_wp2_with fail
    go_ret2
    exact ⟨_, by rw [H.out]; rfl, by rw [H.out]; exact emptyA w w1 Hb1.out, Hb1.out.alloc Hb1.out.size _⟩
  cases hm : memB (nms X) s
  · have H := hide (unfollow_2 (who := who) hm)
    have hq1 := Hq.out
    rw [atI_f hm] at hq1
    have hq2 : q < 0 := by omega
    clear hv hm hq1
    go_wp2_with fail
    go_ret2
    exact ⟨_, by rw [H.out]; rfl, by rw [H.out]; exact emptyA w w1 Hb1.out, Hb1.out.alloc Hb1.out.size _⟩
  obtain ⟨k, F, hk⟩ := nms_mem (memB_iff.1 hm)
  have hk2 := nms_at hk
  have hq1 : atI (nms X) s = k := atI_of hk2 (fun j hj hs => by have := (asB_asc hv).uniq hs hk2; omega)
  rw [Hq.out] at hq1
  subst hq1
  have hkn : k < n := by have h1 := hl.out; have := (List.getElem?_eq_some_iff.1 hk).1; omega
  have H2 : Hid (fol X s = F) := fol_at (a := (s, F)) (asB_asc hv) hk
  skip
  obtain ⟨g, off, A', n', c', rfl, hg, hc0, hc1, hn', hm', hf⟩ := (HX.out.below Hb1.out).at' hk
  have hs1 := Hb1.out.size
  have hgw : g < w1.heap.size := Nat.lt_of_lt_of_le hg hs1
  have Hf : Hid (Strs w1 w1.heap.size A' n' F) := hf.strs.more hs1
  have HsF : Hid (Small F) := nsB_small (asB_acc hv (List.mem_of_getElem? hk)).2.1
  have Hv := hide hv
  have Hm := hide hm
  have Hk := hide hk
  clear hv hm hk hk2 hf hc0
  go_wp2_with fail
  refine (s_NamesDrop A' n' c' F who _ Hf.out HsF.out hn' hm' ).mono ?_
  rintro e w2 ⟨v2, rfl, hown2, hb2⟩
  cases ho : dropM F who
  · have H := hide (unfollow_4 (X := X) (who := who) (s := s) (by rw [H2.out]; exact ho))
    have Hb2 := hide (Hb1.out.trans (hb2.mono hs1))
    clear hown2 hb2 ho
    go_wp2_with fail
    go_ret2
    exact ⟨_, by rw [H.out]; rfl, by rw [H.out]; exact emptyA w w2 Hb2.out, Hb2.out.alloc Hb2.out.size _⟩
  rename_i G
  rw [ho] at hown2
  have H := hide (unfollow_t Hv.out Hm.out  (by rw [H2.out]; exact ho))
  obtain ⟨A2, n2, c2, e2, o2⟩ := hown2
  subst e2
  have HfG : Hid (Fls w2 (fun b => w.heap.size ≤ b ∧ b < w2.heap.size) (.slice A2 n2 c2) G) := (Fls.of_own o2).more fun b hb => ⟨by omega, hb.2.1⟩
  have Hb2 := hide (Hb1.out.trans (hb2.mono hs1))
  have HX2 := hide (HX.out.below Hb2.out)
  have hn6 : n ≤ 6 := by have := asB_6 Hv.out; have := hl.out; omega
  have Hle : Hid (∀ a ∈ X, a.2.length ≤ 10) := fun a ha => nsB_le (asB_acc Hv.out ha).2.1
  have HE : Hid (withF X k G = setF X s G) := withF_setF (a := (s, F)) Hv.out Hk.out G
  clear ho o2 hb2
  go_wp2_with fail
  refine (s_with w (some ⟨g, off, none⟩) n c k X A2 n2 c2 G w2 HX2.out HS.out hn6 HfG.out Hb2.out Hle.out).mono ?_
  rintro e w3 ⟨v3, rfl, hown3, hb3⟩
  rw [HE.out] at hown3
  go_wp2_with fail
  go_ret2
  exact ⟨v3, by rw [H.out]; rfl, by rw [H.out]; exact hown3, hb3⟩
end Go.Proofs.Ytohodhogbdcdmab
