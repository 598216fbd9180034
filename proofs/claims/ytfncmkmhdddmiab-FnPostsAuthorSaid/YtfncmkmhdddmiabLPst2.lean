/- Walks of FnPostsOf, FnPostsOfAll, FnPostsAuthor, FnPosts, FnPostsEach. -/
import Derived.Test.YtfncmkmhdddmiabPadd
import Derived.Test.YtfncmkmhdddmiabSameP
import Derived.Test.YtfncmkmhdddmiabDrawP3
import Derived.Deep.RegionLaw
set_option linter.unusedVariables false
set_option linter.unusedSimpArgs false
namespace Go.Proofs.Ytfncmkmhdddmiab
open Go.RowKit Go.BigFrame

theorem nat_mod (m n : Nat) (hn : 0 < n) : ∃ k : Nat, (m : Int) % (n : Int) = k ∧ (m : Int).tmod n = k ∧ k < n :=
  ⟨m % n, by rw [Int.natCast_emod], by rw [Int.natCast_emod]; exact Int.tmod_eq_emod_of_nonneg (by omega), Nat.mod_lt _ hn⟩
theorem Later.pau {B : Nat} {W : World} (z : Later B W) (A : Option Addr) (n c : Nat) (X : List Pst) (i : Int) (s : ByteArray) (hX : Psts W B A n X) (hB : B ≤ W.heap.size) (hS : PSmall X) (hn : n ≤ maxLen) (h : pAutM X i = s) :
    Calls Try.prog 21 #[.slice A n c, .int .i64 i] z.it fun e w'' => e = .returned (.string s) ∧ ∃ z' : Later B W, w'' = z'.it := by
  subst h
  have hsz := z.below.size
  exact Later.call ((i_pau A n c X i z.it ((hX.below z.below).more (by omega)) hS hn).mono fun e w' ⟨h1, h2⟩ => ⟨h1, h2.mono (by omega)⟩)
theorem pof_author {X : List Pst} {s : ByteArray} {i : Int} (h : i ∈ pOfM X s) : pAutM X i = s := by
  unfold pOfM at h
  split at h
  · rename_i hv
    rw [pAutM_t hv]
    rw [idsOf_mem, List.mem_reverse] at h
    obtain ⟨j, hj, e⟩ := List.mem_iff_getElem.1 h
    exact pAut_at (a := (i, s)) (psB_asc hv) (by rw [List.getElem?_eq_getElem hj, e])
  · cases h
theorem pof_desc {X : List Pst} {s : ByteArray} {k : Nat} {i j : Int} (h1 : (pOfM X s)[k]? = some i) (h2 : (pOfM X s)[k + 1]? = some j) : j < i := by
  unfold pOfM at h1 h2
  split at h1
  · rename_i hv
    rw [if_pos hv] at h2
    have hd := idsOf_desc (psB_asc hv) s
    obtain ⟨k1, e1⟩ := List.getElem?_eq_some_iff.1 h1
    obtain ⟨k2, e2⟩ := List.getElem?_eq_some_iff.1 h2
    have := List.pairwise_iff_getElem.1 hd k (k + 1) k1 k2 (by omega)
    rw [e1, e2] at this; exact this
  · simp at h1
theorem pau_found {X : List Pst} {i : Int} (h : pAutM X i ≠ { data := #[] }) : psB X = true ∧ ∃ a ∈ X, a.1 = i := by
  cases hv : psB X
  · exact absurd (pAutM_f hv) h
  · refine ⟨rfl, ?_⟩
    rw [pAutM_t hv] at h
    apply Classical.byContradiction
    intro hn
    exact h (pAut_none fun a ha e => hn ⟨a, ha, e⟩)
theorem pau_pof {X : List Pst} {k : Nat} {a : Pst} (hv : psB X = true) (ha : X[k]? = some a) : pAutM X a.1 = a.2 ∧ a.1 ∈ pOfM X a.2 := by
  refine ⟨by rw [pAutM_t hv]; exact pAut_at (psB_asc hv) ha, ?_⟩
  rw [pOfM_t hv, idsOf_mem, List.mem_reverse]
  exact List.mem_of_getElem? ha

set_option maxHeartbeats 1000000 in
set_option maxRecDepth 100000 in
theorem FnPostsOf_walk (w : World) (A : Option Addr) (n c : Nat) (hc : Code w w.heap.size A n) (hnc : n ≤ c) (hm : n ≤ maxLen) :
    Calls Try.prog 6 #[.slice A n c] w fun e w' => e = .returned (.bool true) ∧ Below w.heap.size w w' := by
  by_cases h : 1048576 < n
  · unfold maxLen at hm
    go_enter Try.func6, Try.ntmps6
    go_wp2
    go_ret
    exact ⟨rfl, Below.refl _ _⟩
  go_enter Try.func6, Try.ntmps6
  go_wp2_with fail
  refine (d_PostsOf A n c w hc hnc (by omega)).mono ?_
  rintro e w1 ⟨v, X, s, rfl, ⟨A1, n1, c1, rfl, hacc, hnc1, hc1, hdr, hb1⟩, hs5⟩
  have Hacc1 := hide hacc
  have Hb1 := hide hb1
  have Hsm := hide hdr.small
  have hl := hide hacc.1
  have hn13 : n1 ≤ 13 := by have := hdr.1; have := hl.out; omega
  have hn1 : n1 ≤ maxLen := by unfold maxLen; omega
  have hsm : s.size ≤ maxLen := by unfold maxLen; omega
  clear hacc hb1 hdr hc hnc hc1
  go_wp2_with fail
  refine (i_pof A1 n1 c1 X s _ Hacc1.out Hsm.out hn1).mono ?_
  intro e w2 ho
  obtain ⟨A2, n2, c2, rfl, hnc2, hc2, hst2, hb2⟩ := own1_ints ho
  have Hacc2 := hide (Hacc1.out.on hb2)
  have Hb2 := hide (Hb1.out.trans (hb2.mono Hb1.out.size))
  have Hst2 := hide hst2
  have hn2m := Nat.le_trans hnc2 hc2
  clear ho hb2 hst2 hc2
  go_wp2_with fail
  refine (s_pof A1 n1 c1 X s _ Hacc2.out Hsm.out hn1 (by omega)).mono ?_
  intro e w3 ho
  obtain ⟨A3, n3, c3, rfl, hnc3, hc3, hst3, hb3⟩ := own1_ints ho
  have Hacc3 := hide (Hacc2.out.on hb3)
  have Hst23 := hide (Hst2.out.on hb3)
  have Hst3 := hide hst3
  have Hb3 := hide (Hb2.out.trans (hb3.mono Hb2.out.size))
  have hn2b : n2 ≤ 13 := by have h1 := Hst23.out.1; have h2 := pOfM_len X s; have h3 := hl.out; omega
  clear ho hb3 hst3
  go_wp2_with fail
  have hn3m := Nat.le_trans hnc3 hc3
  refine (l_sameI A2 n2 c2 A3 n3 c3 _ _ Hst23.out Hst3.out hn2m).mono ?_
  rintro e w4 ⟨rfl, q4, rfl⟩
  have HY4 : Hid (Ints (w3.drewN q4) (w3.drewN q4).heap.size A2 n2 (pOfM X s)) := Hst23.out.drewN q4
  have HX4 : Hid (Psts (w3.drewN q4) (w3.drewN q4).heap.size A1 n1 X) := Hacc3.out.drewN q4
  have Hb4 : Hid (Below w.heap.size w (w3.drewN q4)) := below_drewN Hb3.out q4
  have hl2 := hide HY4.out.1
  clear Hst23 Hst3 Hst2 Hacc2 Hacc3 Hb3
  go_wp2_with fail
  generalize w3.drewN q4 = w4 at *
  go_loopw [7] (fun i wr => ∃ k : Nat, k ≤ n2 ∧ i = .int .i64 k ∧ Hid (Below w4.heap.size w4 wr)) (fun i _ => n2 - (intOf i).toNat)
  case atStart => exact ⟨0, Nat.zero_le _, rfl, Below.refl _ _⟩
  case round =>
    obtain ⟨k, hk, rfl, hbr⟩ := hrel
    by_cases hlt : k < n2
    · obtain ⟨i, hi⟩ : ∃ i, (pOfM X s)[k]? = some i := ⟨(pOfM X s)[k]'(by have := hl2.out; omega), List.getElem?_eq_getElem _⟩
      obtain ⟨g, off, rfl, hg, hc0⟩ := (HY4.out.below hbr.out).at' hi
      have hsz := hbr.out.size
      have hz0 : ∀ z : Later w4.heap.size wr, z.it.cell? ⟨g, off + k, none⟩ = some (.int .i64 i) := fun z => (z.cell hg).trans hc0
      have HXr := hide (HX4.out.below hbr.out)
      have HA := hide (pof_author (List.mem_of_getElem? hi))
      clear hc0
      rcases k with _ | k
      · rw [Nat.add_zero] at hz0
        clear hi
        go_wp2_with fail
        refine wp_region_later (B := w4.heap.size) (by kernel_rfl) (by kernel_rfl) ?_
        repeat (go_big_quiet_step (((go_at_call 21; exact Later.pau _ A1 n1 c1 X i s HXr.out hsz Hsm.out hn1 HA.out))))
        refine wpQuiet_nil ?_
        intro _ hw'
        obtain ⟨⟨w5, hb5⟩, hw''⟩ := hw'
        subst hw''
        have Hb5 := hide hb5
        clear hb5
        go_wp2_with fail
        go_roundw
        case rel => exact ⟨1, by omega, by go_num, hbr.out.trans Hb5.out⟩
        case measure => simp [intOf]; omega
      · obtain ⟨r, hr⟩ : ∃ i, (pOfM X s)[k]? = some i := ⟨(pOfM X s)[k]'(by have := hl2.out; omega), List.getElem?_eq_getElem _⟩
        obtain ⟨g', off', e1, _, hr0⟩ := (HY4.out.below hbr.out).at' hr
        injection e1 with e1
        injection e1 with e1 e2
        subst e1 e2
        have hz1 : ∀ z : Later w4.heap.size wr, z.it.cell? ⟨g, off + k, none⟩ = some (.int .i64 r) := fun z => (z.cell hg).trans hr0
        have hlt2 : ¬ (r ≤ i) := by have := pof_desc hr hi; omega
        have hk1 : (k : Int) + 1 < (n2 : Int) := by omega
        clear hi hr hr0
        go_wp2_with fail
        refine wp_region_later (B := w4.heap.size) (by kernel_rfl) (by kernel_rfl) ?_
        repeat (go_big_quiet_step (((go_at_call 21; exact Later.pau _ A1 n1 c1 X i s HXr.out hsz Hsm.out hn1 HA.out))))
        refine wpQuiet_nil ?_
        intro _ hw'
        obtain ⟨⟨w5, hb5⟩, hw''⟩ := hw'
        subst hw''
        have Hb5 := hide hb5
        clear hb5
        go_wp2_with fail
        go_roundw
        case rel => exact ⟨k + 2, by omega, by go_num, hbr.out.trans Hb5.out⟩
        case measure => simp [intOf]; omega
    · go_wp2_with fail
      go_ret
      exact ⟨rfl, Hb4.out.trans (hbr.out.mono Hb4.out.size)⟩

set_option maxHeartbeats 1000000 in
set_option maxRecDepth 100000 in
theorem FnPostsOfAll_walk (w : World) (A : Option Addr) (n c : Nat) (hc : Code w w.heap.size A n) (hnc : n ≤ c) (hm : n ≤ maxLen) :
    Calls Try.prog 7 #[.slice A n c] w fun e w' => e = .returned (.bool true) ∧ Below w.heap.size w w' := by
  by_cases h : 1048576 < n
  · unfold maxLen at hm
    go_enter Try.func7, Try.ntmps7
    go_wp2
    go_ret
    exact ⟨rfl, Below.refl _ _⟩
  go_enter Try.func7, Try.ntmps7
  go_wp2_with fail
  refine (d_PostsOf A n c w hc hnc (by omega)).mono ?_
  rintro e w1 ⟨v, X, s, rfl, ⟨A1, n1, c1, rfl, hacc, hnc1, hc1, hdr, hb1⟩, hs5⟩
  have Hacc1 := hide hacc
  have Hb1 := hide hb1
  have Hsm := hide hdr.small
  have hl := hide hacc.1
  have hn13 : n1 ≤ 13 := by have := hdr.1; have := hl.out; omega
  have hn1 : n1 ≤ maxLen := by unfold maxLen; omega
  have hsm : s.size ≤ maxLen := by unfold maxLen; omega
  clear hacc hb1 hdr hc hnc hc1
  go_wp2_with fail
  refine (i_pof A1 n1 c1 X s _ Hacc1.out Hsm.out hn1).mono ?_
  intro e w2 ho
  obtain ⟨A2, n2, c2, rfl, hnc2, hc2, hst2, hb2⟩ := own1_ints ho
  have Hacc2 := hide (Hacc1.out.on hb2)
  have Hb2 := hide (Hb1.out.trans (hb2.mono Hb1.out.size))
  have Hst2 := hide hst2
  have hn2m := Nat.le_trans hnc2 hc2
  clear ho hb2 hst2 hc2
  go_wp2_with fail
  refine (s_pof A1 n1 c1 X s _ Hacc2.out Hsm.out hn1 (by omega)).mono ?_
  intro e w3 ho
  obtain ⟨A3, n3, c3, rfl, hnc3, hc3, hst3, hb3⟩ := own1_ints ho
  have Hacc3 := hide (Hacc2.out.on hb3)
  have Hst23 := hide (Hst2.out.on hb3)
  have Hst3 := hide hst3
  have Hb3 := hide (Hb2.out.trans (hb3.mono Hb2.out.size))
  have hn2b : n2 ≤ 13 := by have h1 := Hst23.out.1; have h2 := pOfM_len X s; have h3 := hl.out; omega
  clear ho hb3 hst3
  go_wp2_with fail
  refine (l_sameI A2 n2 c2 A3 n3 c3 _ _ Hst23.out Hst3.out hn2m).mono ?_
  rintro e w4 ⟨rfl, q4, rfl⟩
  have HX4 : Hid (Psts (w3.drewN q4) (w3.drewN q4).heap.size A1 n1 X) := Hacc3.out.drewN q4
  have HY4 : Hid (Ints (w3.drewN q4) (w3.drewN q4).heap.size A2 n2 (pOfM X s)) := Hst23.out.drewN q4
  have HZ4 : Hid (Ints (w3.drewN q4) (w3.drewN q4).heap.size A3 n3 (pOfM X s)) := Hst3.out.drewN q4
  have Hb4 : Hid (Below w.heap.size w (w3.drewN q4)) := below_drewN Hb3.out q4
  clear Hst23 Hst3 Hst2 Hacc2 Hacc3 Hb3
  go_wp2_with fail
  generalize w3.drewN q4 = w4 at *
  refine (s_Ps A1 n1 c1 X _ HX4.out Hsm.out hn1).mono ?_
  rintro e w5 ⟨rfl, hb5⟩
  have HX5 := hide (HX4.out.on hb5)
  have HY5 := hide (HY4.out.on hb5)
  have HZ5 := hide (HZ4.out.on hb5)
  have Hb5 := hide (Hb4.out.trans (hb5.mono Hb4.out.size))
  clear hb5
  cases hv : psB X
  · clear hv
    go_wp2_with fail
    refine (l_sameI A2 n2 c2 A3 n3 c3 _ _ HY5.out HZ5.out hn2m).mono ?_
    rintro e w6 ⟨rfl, q6, rfl⟩
    go_wp2_with fail
    go_ret
    exact ⟨rfl, below_drewN Hb5.out q6⟩
  · have HC : Hid (n2 = (idsOf X s).length) := by
      have h := HY5.out.1
      rw [pOfM_t hv, count_len] at h
      rw [← h]
      show _ = (ids _).length
      rw [ids_len]
    clear hv
    go_wp2_with fail
    go_loopw [7, 8] (fun v i wr => ∃ k : Nat, k ≤ n1 ∧ i = .int .i64 k ∧ v = .int .i64 ((idsOf (X.take k) s).length : Nat) ∧ wr = w5) (fun _ i _ => n1 - (intOf i).toNat)
    case atStart => exact ⟨0, Nat.zero_le _, rfl, rfl, rfl⟩
    case round =>
      obtain ⟨k, hk, rfl, rfl, rfl⟩ := hrel
      have hcl : (idsOf (X.take k) s).length ≤ k := by have := idsOf_len (X.take k) s; rw [List.length_take] at this; omega
      by_cases hlt : k < n1
      · obtain ⟨a, ha⟩ : ∃ a, X[k]? = some a := ⟨X[k]'(by have := hl.out; omega), List.getElem?_eq_getElem _⟩
        obtain ⟨g, off, rfl, hg, hc0, hc1⟩ := HX5.out.at' ha
        by_cases e : a.2 = s
        · subst e
          have hE : Hid ((idsOf (X.take (k + 1)) a.2).length = (idsOf (X.take k) a.2).length + 1) := by rw [idsOf_yes ha rfl]; simp [Hid]
          generalize (idsOf (X.take k) a.2).length = m at *
          clear ha
          go_wp2_with fail
          go_roundw
          case rel => exact ⟨k + 1, by omega, by go_num, by rw [hE.out]; go_num, by first | trivial | rfl⟩
          case measure => simp [intOf]; omega
        · have hne := txt_ne e
          have hE : Hid ((idsOf (X.take (k + 1)) s).length = (idsOf (X.take k) s).length) := by rw [idsOf_no ha e]; rfl
          generalize (idsOf (X.take k) s).length = m at *
          clear ha e
          go_wp2_with fail
          go_roundw
          case rel => exact ⟨k + 1, by omega, by go_num, by rw [hE.out], by first | trivial | rfl⟩
          case measure => simp [intOf]; omega
      · have hR : Hid ((idsOf (X.take k) s).length = n2) := by
          show _ = _
          rw [HC.out, List.take_of_length_le (by have := hl.out; omega)]
        generalize (idsOf (X.take k) s).length = m at *
        obtain rfl : m = n2 := hR.out
        go_wp2_with fail
        go_ret
        exact ⟨rfl, Hb5.out⟩

set_option maxHeartbeats 1000000 in
set_option maxRecDepth 100000 in
theorem FnPostsAuthor_walk (w : World) (A : Option Addr) (n c : Nat) (hc : Code w w.heap.size A n) (hnc : n ≤ c) (hm : n ≤ maxLen) :
    Calls Try.prog 8 #[.slice A n c] w fun e w' => e = .returned (.bool true) ∧ Below w.heap.size w w' := by
  by_cases h : 1048576 < n
  · unfold maxLen at hm
    go_enter Try.func8, Try.ntmps8
    go_wp2
    go_ret
    exact ⟨rfl, Below.refl _ _⟩
  go_enter Try.func8, Try.ntmps8
  go_wp2_with fail
  refine (d_PostsAuthor A n c w hc hnc (by omega)).mono ?_
  rintro e w1 ⟨v, X, i, rfl, ⟨A1, n1, c1, rfl, hacc, hnc1, hc1, hdr, hb1⟩, hi0, hi1⟩
  have Hacc1 := hide hacc
  have Hb1 := hide hb1
  have Hsm := hide hdr.small
  have hl := hide hacc.1
  have hn13 : n1 ≤ 13 := by have := hdr.1; have := hl.out; omega
  have hn1 : n1 ≤ maxLen := by unfold maxLen; omega
  clear hacc hb1 hdr hc hnc hc1
  obtain ⟨t, ht⟩ : ∃ t, pAutM X i = t := ⟨_, rfl⟩
  have Ht := hide ht
  clear ht
  go_wp2_with fail
  refine (i_pau A1 n1 c1 X i _ Hacc1.out Hsm.out hn1).mono ?_
  rintro e w2 ⟨rfl, hb2⟩
  rw [Ht.out]
  have Hacc2 := hide (Hacc1.out.on hb2)
  have Hb2 := hide (Hb1.out.trans (hb2.mono Hb1.out.size))
  clear hb2
  go_wp2_with fail
  refine (s_pau A1 n1 c1 X i _ Hacc2.out Hsm.out hn1).mono ?_
  rintro e w3 ⟨rfl, hb3⟩
  rw [Ht.out]
  have Hacc3 := hide (Hacc2.out.on hb3)
  have Hb3 := hide (Hb2.out.trans (hb3.mono Hb2.out.size))
  clear hb3
  by_cases ht0 : t = { data := #[] }
  · subst ht0
    go_wp2_with fail
    go_ret
    exact ⟨rfl, Hb3.out⟩
  have hne0 : t.toList.isEmpty = false := by
    rw [← Bool.not_eq_true, List.isEmpty_iff]
    exact fun e => ht0 (toList_inj (e.trans (show ([] : List UInt8) = ({ data := #[] } : ByteArray).toList from (ByteArray.toList_eq { data := #[] }).symm)))
  have HN := hide (pau_found (X := X) (i := i) (by rw [Ht.out]; exact ht0))
  clear ht0
  go_wp2_with fail
  go_loop [7] (fun v => ∃ k : Nat, k ≤ n1 ∧ v = .int .i64 k ∧ Hid (∀ a ∈ X.take k, a.1 ≠ i)) (fun v => n1 - (intOf v).toNat)
  case atStart => exact ⟨0, Nat.zero_le _, rfl, fun a h => by simp at h⟩
  case round =>
    obtain ⟨k, hk, rfl, hno⟩ := hrel
    by_cases hlt : k < n1
    · obtain ⟨a, ha⟩ : ∃ a, X[k]? = some a := ⟨X[k]'(by have := hl.out; omega), List.getElem?_eq_getElem _⟩
      obtain ⟨g, off, rfl, hg, hc0, hc1⟩ := Hacc3.out.at' ha
      by_cases e : a.1 = i
      · subst e
        have hp := pau_pof HN.out.1 ha
        obtain rfl : t = a.2 := Ht.out.symm.trans hp.1
        have HP := hide hp.2
        clear ha hp
        go_wp2_with fail
        refine (i_pof _ n1 c1 X a.2 _ Hacc3.out Hsm.out hn1).mono ?_
        intro e w4 ho
        obtain ⟨A4, n4, c4, rfl, hnc4, hc4, hst4, hb4⟩ := own1_ints ho
        have Hst4 := hide hst4
        have Hb4 := hide (Hb3.out.trans (hb4.mono Hb3.out.size))
        have hn4m := Nat.le_trans hnc4 hc4
        clear ho hst4 hb4
        go_wp2_with fail
        refine (l_hasI A4 n4 c4 _ a.1 _ Hst4.out HP.out hn4m).mono ?_
        rintro e w5 ⟨rfl, rfl⟩
        go_wp2_with fail
        go_ret
        exact ⟨rfl, Hb4.out⟩
      · have H2 : Hid (∀ b ∈ X.take (k + 1), b.1 ≠ i) := fun b hb => by
          rw [List.take_add_one, ha] at hb
          rcases List.mem_append.1 hb with h | h
          · exact hno.out b h
          · simp at h; rw [h]; exact e
        clear ha
        go_wp2_with fail
        go_round
        case rel => exact ⟨k + 1, by omega, by go_num, H2⟩
        case measure => simp [intOf]; omega
    · obtain ⟨a, ha, e⟩ := HN.out.2
      exact absurd e (hno.out a (by rw [List.take_of_length_le (by have := hl.out; omega)]; exact ha))

set_option maxHeartbeats 1000000 in
set_option maxRecDepth 100000 in
theorem FnPostsEach_walk (w : World) (A : Option Addr) (n c : Nat) (hc : Code w w.heap.size A n) (hnc : n ≤ c) (hm : n ≤ maxLen) (A0 : Option Addr) (n0 c0 : Nat) (hc0 : Code w w.heap.size A0 n0) (hnc0 : n0 ≤ c0) (hm0 : n0 ≤ maxLen) :
    Calls Try.prog 11 #[.slice A n c, .slice A0 n0 c0] w fun e w' => e = .returned (.bool true) ∧ Below w.heap.size w w' := by
  by_cases h : 1048576 < n
  · unfold maxLen at hm hm0
    go_enter Try.func11, Try.ntmps11
    go_wp2
    go_ret
    exact ⟨rfl, Below.refl _ _⟩
  by_cases h0 : 1048576 < n0
  · unfold maxLen at hm hm0
    go_enter Try.func11, Try.ntmps11
    go_wp2
    go_ret
    exact ⟨rfl, Below.refl _ _⟩
  go_enter Try.func11, Try.ntmps11
  go_wp2_with fail
  refine (d_PostsValid A n c w hc hnc (by omega)).mono ?_
  rintro e w1 ⟨v, X, rfl, ⟨A1, n1, c1, rfl, hacc, hnc1, hc1, hdr, hb1⟩⟩
  have Hacc1 := hide hacc
  have Hb1 := hide hb1
  have Hsm := hide hdr.small
  have hl := hide hacc.1
  have hn13 : n1 ≤ 13 := by have := hdr.1; have := hl.out; omega
  have hn1 : n1 ≤ maxLen := by unfold maxLen; omega
  clear hacc hb1 hdr hc hnc hc1
  go_wp2_with fail
  refine (i_Ps A1 n1 c1 X _ Hacc1.out Hsm.out hn1).mono ?_
  rintro e w2 ⟨rfl, hb2⟩
  have Hacc2 := hide (Hacc1.out.on hb2)
  have Hb2 := hide (Hb1.out.trans (hb2.mono Hb1.out.size))
  clear hb2
  go_wp2_with fail
  refine (s_Ps A1 n1 c1 X _ Hacc2.out Hsm.out hn1).mono ?_
  rintro e w3 ⟨rfl, hb3⟩
  have Hacc3 := hide (Hacc2.out.on hb3)
  have Hb3 := hide (Hb2.out.trans (hb3.mono Hb2.out.size))
  clear hb3 Hacc1 Hacc2
  cases hv : psB X
  · clear hv
    go_wp2_with fail
    go_ret
    exact ⟨rfl, Hb3.out⟩
  by_cases hz : n1 = 0
  · subst hz
    clear hv
    go_wp2_with fail
    go_ret
    exact ⟨rfl, Hb3.out⟩
  have hne : ((n1 : Int) == 0) = false := by rw [beq_eq_false_iff_ne]; omega
  have HV := hide hv
  obtain ⟨k, hk1, hk2, hkn⟩ := nat_mod n0 n1 (by omega)
  have hw1 : IntKind.i64.wrap ((k : Int) + 1) = (k : Int) + 1 := IntWalk.i64_in _ (by omega)
  obtain ⟨a, ha⟩ : ∃ a, X[k]? = some a := ⟨X[k]'(by have := hl.out; omega), List.getElem?_eq_getElem _⟩
  have HA := hide (pau_pof hv ha).1
  clear hv
  go_wp2_with fail
  obtain ⟨g, off, rfl, hg, hc0, hc1⟩ := Hacc3.out.at' ha
  have hz0 : ∀ z : Later w3.heap.size w3, z.it.cell? ⟨g, off + k * 2, none⟩ = some (.int .i64 a.1) := fun z => (z.cell hg).trans hc0
  have hz1 : ∀ z : Later w3.heap.size w3, z.it.cell? ⟨g, off + k * 2 + 1, none⟩ = some (.string a.2) := fun z => (z.cell hg).trans hc1
  clear hc0 hc1 ha
  refine wp_region_later (B := w3.heap.size) (by kernel_rfl) (by kernel_rfl) ?_
  repeat (go_big_quiet_step (((go_at_call 21; exact Later.pau _ _ n1 c1 X a.1 a.2 Hacc3.out (Nat.le_refl _) Hsm.out hn1 HA.out))))
  refine wpQuiet_nil ?_
  intro _ hw'
  obtain ⟨⟨w5, hb5⟩, hw''⟩ := hw'
  subst hw''
  have Hb5 := hide hb5
  clear hb5
  go_wp2_with fail
  go_ret
  exact ⟨rfl, Hb3.out.trans (Hb5.out.mono Hb3.out.size)⟩

set_option maxHeartbeats 1000000 in
set_option maxRecDepth 100000 in
theorem FnPosts_walk (w : World) (A : Option Addr) (n c : Nat) (hc : Code w w.heap.size A n) (hnc : n ≤ c) (hm : n ≤ maxLen) (A0 : Option Addr) (n0 c0 : Nat) (hc0 : Code w w.heap.size A0 n0) (hnc0 : n0 ≤ c0) (hm0 : n0 ≤ maxLen) :
    Calls Try.prog 9 #[.slice A n c, .slice A0 n0 c0] w fun e w' => e = .returned (.bool true) ∧ Below w.heap.size w w' := by
  by_cases h : 1048576 < n
  · unfold maxLen at hm hm0
    go_enter Try.func9, Try.ntmps9
    go_wp2
    go_ret
    exact ⟨rfl, Below.refl _ _⟩
  by_cases h0 : 1048576 < n0
  · unfold maxLen at hm hm0
    go_enter Try.func9, Try.ntmps9
    go_wp2
    go_ret
    exact ⟨rfl, Below.refl _ _⟩
  go_enter Try.func9, Try.ntmps9
  obtain ⟨i1, hi1, hy0, hy1, hy2⟩ := info_parts' post_info
  have hU := Try.underlying23
  go_wp2_with fail
  refine (d_PostsValid A n c w hc hnc (by omega)).mono ?_
  rintro e w1 ⟨v, X, rfl, ⟨A1, n1, c1, rfl, hacc, hnc1, hc1, hdr, hb1⟩⟩
  have Hacc1 := hide hacc
  have Hb1 := hide hb1
  have Hsm := hide hdr.small
  have hl := hide hacc.1
  have hn13 : n1 ≤ 13 := by have := hdr.1; have := hl.out; omega
  have hn1 : n1 ≤ maxLen := by unfold maxLen; omega
  clear hacc hb1 hdr hc hnc hc1
  go_wp2_with fail
  refine (i_Ps A1 n1 c1 X _ Hacc1.out Hsm.out hn1).mono ?_
  rintro e w2 ⟨rfl, hb2⟩
  have Hacc2 := hide (Hacc1.out.on hb2)
  have Hb2 := hide (Hb1.out.trans (hb2.mono Hb1.out.size))
  clear hb2
  go_wp2_with fail
  refine (s_Ps A1 n1 c1 X _ Hacc2.out Hsm.out hn1).mono ?_
  rintro e w3 ⟨rfl, hb3⟩
  have Hacc3 := hide (Hacc2.out.on hb3)
  have Hb3 := hide (Hb2.out.trans (hb3.mono Hb2.out.size))
  clear hb3 Hacc1 Hacc2
  cases hv : psB X
  · clear hv
    go_wp2_with fail
    go_ret
    exact ⟨rfl, Hb3.out⟩
  by_cases hz : n1 = 0
  · subst hz
    clear hv
    go_wp2_with fail
    go_ret
    exact ⟨rfl, Hb3.out⟩
  have hne : ((n1 : Int) == 0) = false := by rw [beq_eq_false_iff_ne]; omega
  obtain ⟨k, hk1, hk2, hkn⟩ := nat_mod n0 n1 (by omega)
  have hw1 : IntKind.i64.wrap ((k : Int) + 1) = (k : Int) + 1 := IntWalk.i64_in _ (by omega)
  have hX := hide (psB_drop1 hv k)
  have hY := hide (psB_twice (X := X) (k := k) (by have := hl.out; omega))
  have hXS : Hid (PSmall (X.take k ++ X.drop (k + 1))) := fun t ht => by
    rcases List.mem_append.1 ht with h1 | h1
    · exact Hsm.out t (List.mem_of_mem_take h1)
    · exact Hsm.out t (List.mem_of_mem_drop h1)
  have hYS : Hid (PSmall (X.take (k + 1) ++ X.drop k)) := fun t ht => by
    rcases List.mem_append.1 ht with h1 | h1
    · exact Hsm.out t (List.mem_of_mem_take h1)
    · exact Hsm.out t (List.mem_of_mem_drop h1)
  have HV := hide hv
  clear hv
  obtain ⟨E1, hE1, hE1s, _⟩ := slice_to hU hi1 hy1 A1 n1 c1 k k rfl (by omega) hnc1
  obtain ⟨D1, hD1, hD1s, _⟩ := slice_from hU hi1 hy1 A1 n1 c1 (k + 1) ((k : Int) + 1) (by omega) (by omega) hnc1
  obtain ⟨E2, hE2, hE2s, _⟩ := slice_to hU hi1 hy1 A1 n1 c1 (k + 1) ((k : Int) + 1) (by omega) (by omega) hnc1
  obtain ⟨D2, hD2, hD2s, _⟩ := slice_from hU hi1 hy1 A1 n1 c1 k k rfl (by omega) hnc1
  have SE1 : Hid (Rd w3 w3.heap.size 2 E1 k (pcells (X.take k))) := by have h := hE1s _ _ _ Hacc3.out.rd; rw [pcells_take] at h; exact h
  have SD1 : Hid (Rd w3 w3.heap.size 2 D1 (n1 - (k + 1)) (pcells (X.drop (k + 1)))) := by have h := hD1s _ _ _ Hacc3.out.rd; rw [pcells_drop] at h; exact h
  have SE2 : Hid (Rd w3 w3.heap.size 2 E2 (k + 1) (pcells (X.take (k + 1)))) := by have h := hE2s _ _ _ Hacc3.out.rd; rw [pcells_take] at h; exact h
  have SD2 : Hid (Rd w3 w3.heap.size 2 D2 (n1 - k) (pcells (X.drop k))) := by have h := hD2s _ _ _ Hacc3.out.rd; rw [pcells_drop] at h; exact h
  clear hE1s hD1s hE2s hD2s
  have b1 : 0 + k ≤ maxLen := by unfold maxLen; omega
  have b2 : (0 + k) * 24 ≤ 140737488355328 := by omega
  have b3 : 0 + k + (n1 - (k + 1)) ≤ maxLen := by unfold maxLen; omega
  have b4 : (0 + k + (n1 - (k + 1))) * 24 ≤ 140737488355328 := by omega
  have b5 : 0 + (k + 1) ≤ maxLen := by unfold maxLen; omega
  have b6 : (0 + (k + 1)) * 24 ≤ 140737488355328 := by omega
  have b7 : 0 + (k + 1) + (n1 - k) ≤ maxLen := by unfold maxLen; omega
  have b8 : (0 + (k + 1) + (n1 - k)) * 24 ≤ 140737488355328 := by omega
  go_wp2_with fail
  have own0 : (w3.alloc (.cells #[] 31)).ownsRow w3.heap.size 31 2 (.slice (some ⟨w3.heap.size, 0, none⟩) 0 0) 0 (pcells []) := World.ownsRow_lit w3 #[] 0 (Nat.le_refl _) (Nat.zero_le _) rfl
  have hbW : Below w3.heap.size w3 ((w3.alloc (.cells #[] 31)).drew) := ((Below.refl _ _).alloc (Nat.le_refl _) _).drew
  go_region_law (first
    | (refine step_append_rd _ rfl (.tmp 45) (.tmp 48) _ rfl w3.heap.size 31 i1 _ 2 24 hU hi1 hy0 hy1 hy2 rfl (by omega) _ 0 (pcells []) rfl (by exact own0.drew) w3.heap.size E1 k _ (pcells (X.take k)) rfl (by exact SE1.out.below hbW) (pcells_one _) b1 b2 (by exact hbW.size) ?_
       intro v4 w4 own4 gr4 at4
       have hb4 : Below w3.heap.size w3 w4 := Below.own hbW gr4 own0.drew (Nat.le_refl _) hbW.size
       clear gr4 at4)
    | (refine step_append_rd _ rfl (.tmp 49) (.tmp 53) _ rfl w3.heap.size 31 i1 _ 2 24 hU hi1 hy0 hy1 hy2 rfl (by omega) _ (0 + k) (pcells [] ++ pcells (X.take k)) rfl own4 w3.heap.size D1 (n1 - (k + 1)) _ (pcells (X.drop (k + 1))) rfl (by exact SD1.out.below hb4) (pcells_one _) b3 b4 hb4.size ?_
       intro v5 w5 own5 gr5 at5
       have hb5 : Below w3.heap.size w3 w5 := Below.own hb4 gr5 own4 (Nat.le_refl _) hb4.size
       obtain ⟨A5, m5, c5, rfl, own5'⟩ := OwnP.mk' (X := X.take k ++ X.drop (k + 1)) own5 (by rw [pcells_app]; rfl)
       clear gr5 at5 own4 own5))
  have SE2' := hide ((SE2.out.below hb5).more hb5.size)
  have SD2' := hide ((SD2.out.below hb5).more hb5.size)
  have own6 : (w5.alloc (.cells #[] 31)).ownsRow w5.heap.size 31 2 (.slice (some ⟨w5.heap.size, 0, none⟩) 0 0) 0 (pcells []) := World.ownsRow_lit w5 #[] 0 (Nat.le_refl _) (Nat.zero_le _) rfl
  have hbW6 : Below w5.heap.size w5 ((w5.alloc (.cells #[] 31)).drew) := ((Below.refl _ _).alloc (Nat.le_refl _) _).drew
  go_wp2_with fail
  go_region_law (first
    | (refine step_append_rd _ rfl (.tmp 55) (.tmp 59) _ rfl w5.heap.size 31 i1 _ 2 24 hU hi1 hy0 hy1 hy2 rfl (by omega) _ 0 (pcells []) rfl (by exact own6.drew) w5.heap.size E2 (k + 1) _ (pcells (X.take (k + 1))) rfl (by exact SE2'.out.below hbW6) (pcells_one _) b5 b6 (by exact hbW6.size) ?_
       intro v7 w7 own7 gr7 at7
       have hb7 : Below w5.heap.size w5 w7 := Below.own hbW6 gr7 own6.drew (Nat.le_refl _) hbW6.size
       clear gr7 at7)
    | (refine step_append_rd _ rfl (.tmp 60) (.tmp 63) _ rfl w5.heap.size 31 i1 _ 2 24 hU hi1 hy0 hy1 hy2 rfl (by omega) _ (0 + (k + 1)) (pcells [] ++ pcells (X.take (k + 1))) rfl own7 w5.heap.size D2 (n1 - k) _ (pcells (X.drop k)) rfl (by exact SD2'.out.below hb7) (pcells_one _) b7 b8 hb7.size ?_
       intro v8 w8 own8 gr8 at8
       have hb8 : Below w5.heap.size w5 w8 := Below.own hb7 gr8 own7 (Nat.le_refl _) hb7.size
       obtain ⟨A8, m8, c8, rfl, own8'⟩ := OwnP.mk' (X := X.take (k + 1) ++ X.drop k) own8 (by rw [pcells_app]; rfl)
       clear gr8 at8 own7 own8))
  have ST5 := hide (((Psts.of_own own5').below hb8).more hb8.size)
  have ST8 := hide (Psts.of_own own8')
  have hm5 : m5 ≤ maxLen := by have := (own_cap own5').1; have := (own_cap own5').2; omega
  have hm8 : m8 ≤ maxLen := by have := (own_cap own8').1; have := (own_cap own8').2; omega
  have Hbf := hide (Hb3.out.trans ((hb5.mono Hb3.out.size).trans (hb8.mono (Nat.le_trans Hb3.out.size hb5.size))))
  clear own5' own8' hb5 hb8 own6 hbW6 own0 hbW
  go_wp2_with fail
  refine (i_Ps A5 m5 c5 _ _ ST5.out hXS.out hm5).mono ?_
  rintro e w9 ⟨rfl, hb9⟩
  rw [hX.out]
  go_wp2_with fail
  refine (i_Ps A8 m8 c8 _ _ (ST8.out.on hb9) hYS.out hm8).mono ?_
  rintro e w10 ⟨rfl, hb10⟩
  rw [hY.out]
  go_wp2_with fail
  go_ret
  exact ⟨rfl, Hbf.out.trans ((hb9.mono Hbf.out.size).trans (hb10.mono (Nat.le_trans Hbf.out.size hb9.size)))⟩
end Go.Proofs.Ytfncmkmhdddmiab
