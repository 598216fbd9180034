/- changeFollowers, Follow, Unfollow. -/
import Derived.Test.YtohodhogbdcdmabAccts
set_option linter.unusedVariables false
set_option linter.unusedSimpArgs false
namespace Go.Proofs.Ytohodhogbdcdmab
open Go.RowKit Go.Maps

/-- Accounts in memory of the call's own, and whether it succeeds. -/
def Own2A (w : World) (o : Option (List Acc)) (e : Ending) (w' : World) : Prop := ∃ v, e = .returned (.tuple #[v, .bool o.isSome]) ∧ OwnA w.heap.size w' v (o.getD []) ∧ Below w.heap.size w w'
def chgM (op : List ByteArray → ByteArray → Option (List ByteArray)) (X : List Acc) (who s : ByteArray) : Option (List Acc) := if (asB X && memB (nms X) s) = true then (op (fol X s) who).map (setF X s) else none
section
variable (op : List ByteArray → ByteArray → Option (List ByteArray)) {X : List Acc}
theorem chgM_1 (who s : ByteArray) (h : asB X = false) : chgM op X who s = none := by unfold chgM; rw [h]; rfl
theorem chgM_2 (who : ByteArray) {s : ByteArray} (h : memB (nms X) s = false) : chgM op X who s = none := by unfold chgM; rw [h, Bool.and_false]; rfl
theorem chgM_3 {who s : ByteArray} (h : op (fol X s) who = none) : chgM op X who s = none := by unfold chgM; rw [h]; split <;> rfl
theorem chgM_t {who s : ByteArray} {F : List ByteArray} (h1 : asB X = true) (h2 : memB (nms X) s = true) (h4 : op (fol X s) who = some F) : chgM op X who s = some (setF X s F) := by
  unfold chgM; rw [h1, h2, h4]; simp
end
theorem chg_follow (X : List Acc) {who s : ByteArray} (h : who ≠ s) : chgM putM X who s = followM X who s := by
  unfold chgM followM; simp [h]
theorem chg_unfollow (X : List Acc) (who s : ByteArray) : chgM dropM X who s = unfollowM X who s := rfl
theorem own_tight {w : World} {b n : Nat} {D : DataW Value} (h : w.ownsMap Try.prog 9 Rv b n D) : w.ownsMap Try.prog 9 Rv b (Maps.size D) D := by
  obtain ⟨es, clock, hb, F, hs, rfl⟩ := h
  exact ⟨es, clock, hb, F, by simp [Maps.size, length_sorted], rfl⟩
/-- The map's own block holds no cells. -/
theorem map_no_cell {w : World} {b n : Nat} {D : DataW Value} (h : w.ownsMap Try.prog 9 Rv b n D) (o : Nat) : w.cell? ⟨b, o, none⟩ = none := by
  obtain ⟨es, clock, hb, F, hs, rfl⟩ := h
  simp [World.cell?, hb]
theorem Fls.apart {w : World} {ok : Nat → Prop} {b n : Nat} {D : DataW Value} {v : Value} {F : List ByteArray} (hm : w.ownsMap Try.prog 9 Rv b n D) (h : Fls w ok v F) : Fls w (fun g => ok g ∧ g ≠ b) v F := by
  obtain ⟨A, n', c', e, h1, h2, h3, h4⟩ := h
  refine ⟨A, n', c', e, h1, h2, h3, fun hn => ?_⟩
  obtain ⟨g, off, e, hb, hc⟩ := h4 hn
  refine ⟨g, off, e, ⟨hb, ?_⟩, hc⟩
  rintro rfl
  have h5 := hc 0 (F[0]'(by omega)) (List.getElem?_eq_getElem _)
  rw [map_no_cell hm] at h5
  cases h5

theorem OwnA.down {base base' : Nat} {w : World} {v : Value} {X : List Acc} (h : OwnA base w v X) (hb : base' ≤ base) : OwnA base' w v X := by
  obtain ⟨A, n, c, xs, rfl, g1, g2⟩ := h
  exact ⟨A, n, c, xs, rfl, own_base g1 hb, g2.more fun b hb => ⟨by omega, hb.2⟩⟩

set_option maxHeartbeats 1000000 in
theorem chg_Put (A : Option Addr) (n c : Nat) (X : List Acc) (who s : ByteArray) (w : World) (hX : Accs w w.heap.size A n X) (hS : ASmall X) (hn : n ≤ maxLen) (hs : s.size ≤ maxLen) (hw : who.size ≤ maxLen) :
    Calls Try.prog 41 #[.slice A n c, .string who, .string s, .func (.func 42) #[] #[]] w fun e w' => Own2A w (chgM putM X who s) e w' := by
  have HX := hide hX
  have HS := hide hS
  have Hn := hide hn
  have Hs := hide hs
  have Hw := hide hw
  clear hX hS hn hs hw
  go_enter Try.func41, Try.ntmps41
  go_wp2_with fail
  refine (i_book A n c X _ HX.out HS.out Hn.out).mono ?_
  rintro e w1 (⟨hv, rfl, hb1⟩ | ⟨hv, b, rfl, hb, hbk, hb1⟩)
  · have H := hide (chgM_1 putM who s hv)
    have Hb1 := hide hb1
    clear hv hb1
    go_wp2_with fail
    go_ret2
    exact ⟨_, by rw [H.out]; rfl, by rw [H.out]; exact OwnA.nil _ _, Hb1.out⟩
  obtain ⟨v, hrun, hf⟩ := hbk.look2 Hs.out
  have hsz1 := hb1.size
  cases hm : memB (nms X) s
  · rw [hm] at hrun
    have H := hide (chgM_2 putM who hm)
    have Hb1 := hide hb1
    clear hv hm hf hbk hb1
    go_wp2_with fail
    go_ret2
    exact ⟨_, by rw [H.out]; rfl, by rw [H.out]; exact OwnA.nil _ _, Hb1.out⟩
  rw [hm] at hrun
  obtain ⟨A', n', c', e, hnc', hm', _⟩ := id hf
  subst e
  have Hv := hide hv
  have Hm := hide hm
  have Hbk := hide hbk
  have Hb1 := hide hb1
  have Hf := hide (hf.more (ok' := (· < w1.heap.size)) (fun g hg => Nat.lt_of_lt_of_le hg hsz1)).strs
  have HsF := hide (nsB_small (fol_valid hv (memB_iff.1 hm)).1)
  clear hv hm hbk hb1 hf
  go_wp2_with fail
  refine (i_NamesPut A' n' c' (fol X s) who _ Hf.out HsF.out hnc' hm' Hw.out).mono ?_
  rintro e w2 ⟨v2, rfl, hown2, hb2⟩
  cases ho : putM (fol X s) who
  · have H := hide (chgM_3 putM ho)
    have Hb2 := hide (Hb1.out.trans (hb2.mono hsz1))
    clear hown2 hb2 ho
    go_wp2_with fail
    go_ret2
    exact ⟨_, by rw [H.out]; rfl, by rw [H.out]; exact OwnA.nil _ _, Hb2.out⟩
  rename_i G
  rw [ho] at hown2
  have hG := putM_len ho
  have H := hide (chgM_t putM Hv.out Hm.out ho)
  have hsz2 := hb2.size
  have Hbk2 : Hid (Book w2 (· < w2.heap.size) b 6 X) := (Hbk.out.keep (grown_of_below hb2 (row := none)) (by simp) (fun p hp => hb2.cell (Nat.lt_of_lt_of_le hp hsz1))).more fun g hg => by omega
  obtain ⟨A2, n2, c2, e2, o2⟩ := hown2
  subst e2
  have HfG : Hid (Fls w2 (· < w2.heap.size) (.slice A2 n2 c2) G) := (Fls.of_own o2).more fun b hb => hb.2.1
  have Hb2 := hide (Hb1.out.trans (hb2.mono hsz1))
  have hblt := Hbk.out.lt
  obtain ⟨D, d1, d2, d3, d4⟩ := Hbk2.out
  have D1 := hide d1
  have D2 := hide d2
  have D3 := hide d3
  have D4 := hide d4
  have HG := hide hG
  clear hb2 ho o2 d1 d2 d3 d4 hrun hG
  go_wp2_with (
    (at_mapUpdate
     refine wpList_mapUpdate_own _ rfl _ _ _ 58 rfl 9 61 keyT Try.underlying58 Rv b 6 D rfl D1.out (by unfold maxLen; omega) (.string s) (.slice A2 n2 c2) (kl s) rfl rfl (keyOf_s Hs.out) (.held (.slice A2 n2 c2)) [] rfl ?_
     intro w5 hown5 hgrow5
     have Hown5 := hide hown5
     have Hgrow5 := hide hgrow5
     clear hown5 hgrow5))
  have hs5 := Hgrow5.out.size
  have hkeep : ∀ q : Addr, q.block < w2.heap.size ∧ q.block ≠ b → w5.cell? q = w2.cell? q := fun q hq => World.cell?_of_block (Hgrow5.out.block _ hq.1 (fun e => by injection e with e; exact hq.2 e))
  have hsX := memB_iff.1 Hm.out
  have HB5 : Hid (Book w5 (fun g => g < w2.heap.size ∧ g ≠ b) b 6 (setF X s G)) := by
    have h := Book.set (w' := w5) D2.out D3.out (fun t ht => by obtain ⟨v, g1, g2⟩ := D4.out t ht; exact ⟨v, g1, g2.apart D1.out⟩) hsX ((HfG.out.apart D1.out).keep hkeep) hkeep (own_tight Hown5.out)
    obtain ⟨E, e1, e2⟩ := h
    refine ⟨E, (own_tight e1).mono ?_, e2⟩
    have h1 := (own_tight e1).size_le
    have h2 := e1.size_le
    rw [size_put D2.out, if_pos (by rw [D3.out s]; exact Hm.out)] at h2
    have h3 := D1.out.size_le
    omega
  have HW5 : Hid (Below w.heap.size w w5) := Hb2.out.grown Hgrow5.out (by omega) (fun q hq => by injection hq; omega)
  have hval : ∀ a ∈ X, nvB a.1 = true ∧ nsB a.2 = true ∧ a.1 ∉ a.2 := fun a ha => asB_acc Hv.out ha
  have hXs : ∀ a ∈ setF X s G, a.1.size ≤ maxLen := fun a ha => by
    have h1 : a.1 ∈ nms (setF X s G) := List.mem_map_of_mem ha
    rw [setF_nms] at h1
    obtain ⟨kk, F, hk⟩ := nms_mem h1
    exact nvB_small (hval _ (List.mem_of_getElem? hk)).1
  have hXf : ∀ a ∈ setF X s G, a.2.length ≤ 1000 := fun a ha => by
    unfold setF at ha
    obtain ⟨b, hb, rfl⟩ := List.mem_map.1 ha
    split
    · have := HG.out; show G.length ≤ 1000; omega
    · have := nsB_le (hval _ hb).2.1; omega
  have HXs := hide hXs
  have HXf := hide hXf
  have Hasc : Hid (Asc (nms (setF X s G))) := by show Asc _; rw [setF_nms]; exact asB_asc Hv.out
  have hl6 : (setF X s G).length ≤ 6 := by rw [setF_len]; exact asB_6 Hv.out
  have Hl6 := hide hl6
  clear hkeep hsX hval hXs hXf hl6
  refine (accts_of b (setF X s G) _ w5 HB5.out Hasc.out Hl6.out (fun g hg => by omega) HXs.out HXf.out).mono ?_
  rintro e w6 ⟨v6, rfl, hown6, hb6⟩
  go_wp2_with fail
  go_ret2
  exact ⟨v6, by rw [H.out]; rfl, by rw [H.out]; exact hown6.down (by have := Hb1.out.size; omega), HW5.out.trans (hb6.mono (by have := Hb1.out.size; omega))⟩

set_option maxHeartbeats 1000000 in
theorem chg_Drop (A : Option Addr) (n c : Nat) (X : List Acc) (who s : ByteArray) (w : World) (hX : Accs w w.heap.size A n X) (hS : ASmall X) (hn : n ≤ maxLen) (hs : s.size ≤ maxLen) (hw : who.size ≤ maxLen) :
    Calls Try.prog 41 #[.slice A n c, .string who, .string s, .func (.func 23) #[] #[]] w fun e w' => Own2A w (chgM dropM X who s) e w' := by
  have HX := hide hX
  have HS := hide hS
  have Hn := hide hn
  have Hs := hide hs
  have Hw := hide hw
  clear hX hS hn hs hw
  go_enter Try.func41, Try.ntmps41
  go_wp2_with fail
  refine (i_book A n c X _ HX.out HS.out Hn.out).mono ?_
  rintro e w1 (⟨hv, rfl, hb1⟩ | ⟨hv, b, rfl, hb, hbk, hb1⟩)
  · have H := hide (chgM_1 dropM who s hv)
    have Hb1 := hide hb1
    clear hv hb1
    go_wp2_with fail
    go_ret2
    exact ⟨_, by rw [H.out]; rfl, by rw [H.out]; exact OwnA.nil _ _, Hb1.out⟩
  obtain ⟨v, hrun, hf⟩ := hbk.look2 Hs.out
  have hsz1 := hb1.size
  cases hm : memB (nms X) s
  · rw [hm] at hrun
    have H := hide (chgM_2 dropM who hm)
    have Hb1 := hide hb1
    clear hv hm hf hbk hb1
    go_wp2_with fail
    go_ret2
    exact ⟨_, by rw [H.out]; rfl, by rw [H.out]; exact OwnA.nil _ _, Hb1.out⟩
  rw [hm] at hrun
  obtain ⟨A', n', c', e, hnc', hm', _⟩ := id hf
  subst e
  have Hv := hide hv
  have Hm := hide hm
  have Hbk := hide hbk
  have Hb1 := hide hb1
  have Hf := hide (hf.more (ok' := (· < w1.heap.size)) (fun g hg => Nat.lt_of_lt_of_le hg hsz1)).strs
  have HsF := hide (nsB_small (fol_valid hv (memB_iff.1 hm)).1)
  clear hv hm hbk hb1 hf
  go_wp2_with fail
  refine (i_NamesDrop A' n' c' (fol X s) who _ Hf.out HsF.out hnc' hm' ).mono ?_
  rintro e w2 ⟨v2, rfl, hown2, hb2⟩
  cases ho : dropM (fol X s) who
  · have H := hide (chgM_3 dropM ho)
    have Hb2 := hide (Hb1.out.trans (hb2.mono hsz1))
    clear hown2 hb2 ho
    go_wp2_with fail
    go_ret2
    exact ⟨_, by rw [H.out]; rfl, by rw [H.out]; exact OwnA.nil _ _, Hb2.out⟩
  rename_i G
  rw [ho] at hown2
  have hG := dropM_len ho
  have H := hide (chgM_t dropM Hv.out Hm.out ho)
  have hsz2 := hb2.size
  have Hbk2 : Hid (Book w2 (· < w2.heap.size) b 6 X) := (Hbk.out.keep (grown_of_below hb2 (row := none)) (by simp) (fun p hp => hb2.cell (Nat.lt_of_lt_of_le hp hsz1))).more fun g hg => by omega
  obtain ⟨A2, n2, c2, e2, o2⟩ := hown2
  subst e2
  have HfG : Hid (Fls w2 (· < w2.heap.size) (.slice A2 n2 c2) G) := (Fls.of_own o2).more fun b hb => hb.2.1
  have Hb2 := hide (Hb1.out.trans (hb2.mono hsz1))
  have hblt := Hbk.out.lt
  obtain ⟨D, d1, d2, d3, d4⟩ := Hbk2.out
  have D1 := hide d1
  have D2 := hide d2
  have D3 := hide d3
  have D4 := hide d4
  have HG := hide hG
  clear hb2 ho o2 d1 d2 d3 d4 hrun hG
  go_wp2_with (
    (at_mapUpdate
     refine wpList_mapUpdate_own _ rfl _ _ _ 58 rfl 9 61 keyT Try.underlying58 Rv b 6 D rfl D1.out (by unfold maxLen; omega) (.string s) (.slice A2 n2 c2) (kl s) rfl rfl (keyOf_s Hs.out) (.held (.slice A2 n2 c2)) [] rfl ?_
     intro w5 hown5 hgrow5
     have Hown5 := hide hown5
     have Hgrow5 := hide hgrow5
     clear hown5 hgrow5))
  have hs5 := Hgrow5.out.size
  have hkeep : ∀ q : Addr, q.block < w2.heap.size ∧ q.block ≠ b → w5.cell? q = w2.cell? q := fun q hq => World.cell?_of_block (Hgrow5.out.block _ hq.1 (fun e => by injection e with e; exact hq.2 e))
  have hsX := memB_iff.1 Hm.out
  have HB5 : Hid (Book w5 (fun g => g < w2.heap.size ∧ g ≠ b) b 6 (setF X s G)) := by
    have h := Book.set (w' := w5) D2.out D3.out (fun t ht => by obtain ⟨v, g1, g2⟩ := D4.out t ht; exact ⟨v, g1, g2.apart D1.out⟩) hsX ((HfG.out.apart D1.out).keep hkeep) hkeep (own_tight Hown5.out)
    obtain ⟨E, e1, e2⟩ := h
    refine ⟨E, (own_tight e1).mono ?_, e2⟩
    have h1 := (own_tight e1).size_le
    have h2 := e1.size_le
    rw [size_put D2.out, if_pos (by rw [D3.out s]; exact Hm.out)] at h2
    have h3 := D1.out.size_le
    omega
  have HW5 : Hid (Below w.heap.size w w5) := Hb2.out.grown Hgrow5.out (by omega) (fun q hq => by injection hq; omega)
  have hval : ∀ a ∈ X, nvB a.1 = true ∧ nsB a.2 = true ∧ a.1 ∉ a.2 := fun a ha => asB_acc Hv.out ha
  have hXs : ∀ a ∈ setF X s G, a.1.size ≤ maxLen := fun a ha => by
    have h1 : a.1 ∈ nms (setF X s G) := List.mem_map_of_mem ha
    rw [setF_nms] at h1
    obtain ⟨kk, F, hk⟩ := nms_mem h1
    exact nvB_small (hval _ (List.mem_of_getElem? hk)).1
  have hXf : ∀ a ∈ setF X s G, a.2.length ≤ 1000 := fun a ha => by
    unfold setF at ha
    obtain ⟨b, hb, rfl⟩ := List.mem_map.1 ha
    split
    · have := HG.out; show G.length ≤ 1000; omega
    · have := nsB_le (hval _ hb).2.1; omega
  have HXs := hide hXs
  have HXf := hide hXf
  have Hasc : Hid (Asc (nms (setF X s G))) := by show Asc _; rw [setF_nms]; exact asB_asc Hv.out
  have hl6 : (setF X s G).length ≤ 6 := by rw [setF_len]; exact asB_6 Hv.out
  have Hl6 := hide hl6
  clear hkeep hsX hval hXs hXf hl6
  refine (accts_of b (setF X s G) _ w5 HB5.out Hasc.out Hl6.out (fun g hg => by omega) HXs.out HXf.out).mono ?_
  rintro e w6 ⟨v6, rfl, hown6, hb6⟩
  go_wp2_with fail
  go_ret2
  exact ⟨v6, by rw [H.out]; rfl, by rw [H.out]; exact hown6.down (by have := Hb1.out.size; omega), HW5.out.trans (hb6.mono (by have := Hb1.out.size; omega))⟩

set_option maxHeartbeats 1000000 in
theorem i_follow (A : Option Addr) (n c : Nat) (X : List Acc) (who s : ByteArray) (w : World) (hX : Accs w w.heap.size A n X) (hS : ASmall X) (hn : n ≤ maxLen) (hs : s.size ≤ maxLen) (hw : who.size ≤ maxLen) :
    Calls Try.prog 13 #[.slice A n c, .string who, .string s] w fun e w' => Own2A w (followM X who s) e w' := by
  have HX := hide hX
  have HS := hide hS
  have Hn := hide hn
  have Hs := hide hs
  have Hw := hide hw
  clear hX hS hn hs hw
  by_cases e : who = s
  · subst e
    have H := hide (follow_3 X who)
    go_enter Try.func13, Try.ntmps13
    go_wp2_with fail
    go_ret2
    exact ⟨_, by rw [H.out]; rfl, by rw [H.out]; exact OwnA.nil _ _, Below.refl _ _⟩
  · have hne := beq_of_ne e
    have H := hide (chg_follow X e)
    clear e
    go_enter Try.func13, Try.ntmps13
    go_wp2_with fail
    refine (chg_Put A n c X who s _ HX.out HS.out Hn.out Hs.out Hw.out).mono ?_
    rintro e w2 ⟨v2, rfl, hown2, hb2⟩
    rw [H.out] at hown2 ⊢
    go_wp2_with fail
    go_ret2
    exact ⟨v2, rfl, hown2, hb2⟩

set_option maxHeartbeats 1000000 in
theorem i_unfollow (A : Option Addr) (n c : Nat) (X : List Acc) (who s : ByteArray) (w : World) (hX : Accs w w.heap.size A n X) (hS : ASmall X) (hn : n ≤ maxLen) (hs : s.size ≤ maxLen) (hw : who.size ≤ maxLen) :
    Calls Try.prog 18 #[.slice A n c, .string who, .string s] w fun e w' => Own2A w (unfollowM X who s) e w' := by
  have HX := hide hX
  have HS := hide hS
  have Hn := hide hn
  have Hs := hide hs
  have Hw := hide hw
  clear hX hS hn hs hw
  go_enter Try.func18, Try.ntmps18
  go_wp2_with fail
  refine (chg_Drop A n c X who s _ HX.out HS.out Hn.out Hs.out Hw.out).mono ?_
  rintro e w2 ⟨v2, rfl, hown2, hb2⟩
  rw [chg_unfollow] at hown2 ⊢
  go_wp2_with fail
  go_ret2
  exact ⟨v2, rfl, hown2, hb2⟩
end Go.Proofs.Ytohodhogbdcdmab
