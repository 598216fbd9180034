/- Walk of FnBoxesPutOthers. -/
import Derived.Test.YtfncmkmhdddmiaaLBs
import Derived.Deep.RegionHeld3
set_option linter.unusedVariables false
set_option linter.unusedSimpArgs false
namespace Go.Proofs.Ytfncmkmhdddmiaa
open Go.RowKit Go.BigFrame

set_option maxHeartbeats 1000000 in
set_option maxRecDepth 100000 in
theorem FnBoxesPutOthers_walk (w : World) (A : Option Addr) (n c : Nat) (hc : Code w w.heap.size A n) (hnc : n ≤ c) (hm : n ≤ maxLen) :
    Calls Try.prog 8 #[.slice A n c] w fun e w' => e = .returned (.bool true) ∧ Below w.heap.size w w' := by
  by_cases h : 1048576 < n
  · unfold maxLen at hm
    go_enter Try.func8, Try.ntmps8
    go_wp2
    go_ret
    exact ⟨rfl, Below.refl _ _⟩
  go_enter Try.func8, Try.ntmps8
  go_wp2_with fail
  refine (d_BoxesPut A n c w hc hnc (by omega)).mono ?_
  rintro e w1 ⟨v, X, s, i, rfl, ⟨A1, n1, c1, rfl, hacc, hnc1, hc1, hdr, hb1⟩, hs5⟩
  have Hacc1 := hide hacc
  have Hb1 := hide hb1
  have Hsm := hide hdr.small
  have hl := hide hacc.1
  have hn16 : n1 ≤ 6 := by have := hdr.1; have := hl.out; omega
  have hn1 : n1 ≤ maxLen := by unfold maxLen; omega
  have hsm : s.size ≤ maxLen := by unfold maxLen; omega
  clear hacc hb1 hdr hc hnc hc1
  go_wp2_with fail
  refine (i_BoxesPut A1 n1 c1 X s i _ Hacc1.out Hsm.out hn1 hsm).mono ?_
  intro e w2 ho
  obtain ⟨A2, n2, c2, rfl, hnc2, hc2, hst2, hb2⟩ := own2_bxs ho
  have Hacc2 := hide (Hacc1.out.on hb2)
  have Hb2 := hide (Hb1.out.trans (hb2.mono Hb1.out.size))
  have Hst2 := hide hst2
  have hn2m := Nat.le_trans hnc2 hc2
  clear ho hb2 hst2 hc2
  go_wp2_with fail
  refine (s_BoxesPut A1 n1 c1 X s i _ Hacc2.out Hsm.out hn1 hsm).mono ?_
  intro e w3 ho
  obtain ⟨A3, n3, c3, rfl, hnc3, hc3, hst3, hb3⟩ := own2_bxs ho
  have Hacc3 := hide (Hacc2.out.on hb3)
  have Hst23 := hide (Hst2.out.on hb3)
  have Hst3 := hide hst3
  have Hb3 := hide (Hb2.out.trans (hb3.mono Hb2.out.size))
  clear ho hb3 hst3 hc3
  cases ho : bsPutM X s i
  · have h2 := Hst23.out
    have h3 := Hst3.out
    rw [ho] at h2 h3
    simp only [Option.getD_none] at h2 h3
    have HA2 := hide h2
    have HA3 := hide h3
    clear h2 h3 ho
    go_wp2_with fail
    refine (l_sameBs A2 n2 c2 A3 n3 c3 [] _ HA2.out HA3.out hn2m).mono ?_
    rintro e w4 ⟨rfl, hb4⟩
    have HA24 := hide (HA2.out.on hb4)
    have HA34 := hide (HA3.out.on hb4)
    have Hb4 := hide (Hb3.out.trans (hb4.mono Hb3.out.size))
    clear hb4
    go_wp2_with fail
    refine (l_sameBs A2 n2 c2 A3 n3 c3 [] _ HA24.out HA34.out hn2m).mono ?_
    rintro e w5 ⟨rfl, hb5⟩
    go_wp2_with fail
    go_ret
    exact ⟨rfl, Hb4.out.trans (hb5.mono Hb4.out.size)⟩
  rename_i Y
  have HF := hide (bsPutM_some ho)
  have HA2 : Hid (Bxs w3 w3.heap.size A2 n2 Y) := by have h := Hst23.out; rw [ho] at h; exact h
  have HA3 : Hid (Bxs w3 w3.heap.size A3 n3 Y) := by have h := Hst3.out; rw [ho] at h; exact h
  have hlY := hide HA2.out.1
  have HsY := hide (bxs_small HF.out.vy)
  have hn12 : n1 ≤ n2 ∧ n2 ≤ n1 + 1 := by have h1 := HF.out.len; have h2 := hlY.out; have h3 := hl.out; omega
  have hn12a := hn12.1
  have hn12b := hn12.2
  clear ho Hst23 Hst3 Hst2 Hacc2 hn12
  go_wp2_with fail
  refine (l_sameBs A2 n2 c2 A3 n3 c3 Y _ HA2.out HA3.out hn2m).mono ?_
  rintro e w4 ⟨rfl, hb4⟩
  have HY4 := hide (HA2.out.on hb4)
  have HX4 := hide (Hacc3.out.on hb4)
  have Hb4 := hide (Hb3.out.trans (hb4.mono Hb3.out.size))
  clear HA2 HA3 Hacc3 Hb3 hb4
  have HG : Hid (∀ (k : Nat) (a : Bx), X[k]? = some a → a.1 ≠ s → bgetM Y a.1 = a.2) := fun k a ha hs => by
    rw [HF.out.other hs, bgetM_t HF.out.vx]; exact bget_at (bxsB_asc HF.out.vx) ha
  go_wp2_with fail
  go_loopw [10] (fun i wr => ∃ k : Nat, k ≤ n1 ∧ i = .int .i64 k ∧ Hid (Below w4.heap.size w4 wr)) (fun i _ => n1 - (intOf i).toNat)
  case atStart => exact ⟨0, Nat.zero_le _, rfl, Below.refl _ _⟩
  case round =>
    obtain ⟨k, hk, rfl, hbr⟩ := hrel
    by_cases hlt : k < n1
    · obtain ⟨a, ha⟩ : ∃ a, X[k]? = some a := ⟨X[k]'(by have := hl.out; omega), List.getElem?_eq_getElem _⟩
      obtain ⟨g, off, A4, n4, c4, rfl, hg, hc0, hc1, hn4, hm4, hf⟩ := (HX4.out.below hbr.out).at' ha
      by_cases has : a.1 = s
      · subst has
        have hz0 : ∀ z : Later w4.heap.size wr, z.it.cell? ⟨g, off + k * 2, none⟩ = some (.string a.1) := fun z => (z.cell hg).trans hc0
        have hsz := hbr.out.size
        clear hf hc1 ha
        go_wp2_with fail
        refine wp_region_later (B := w4.heap.size) (by kernel_rfl) (by kernel_rfl) ?_
        repeat (go_big_quiet_step ((fail)))
        refine wpQuiet_nil ?_
        intro _ hw'
        obtain ⟨⟨w5, hb5⟩, hw''⟩ := hw'
        subst hw''
        have Hb5 := hide hb5
        clear hb5
        go_wp2_with fail
        go_roundw
        case rel => exact ⟨k + 1, by omega, by go_num, hbr.out.trans Hb5.out⟩
        case measure => simp [intOf]; omega
      · have HGa := hide (HG.out k a ha has)
        have hne0 := txt_ne has
        have hne1 : (a.1.toList != s.toList) = true := by rw [bne, hne0]; rfl
        have HFi := hide hf.ints
        have HYr := hide (HY4.out.on hbr.out)
        have hsz := hbr.out.size
        have hgw : g < wr.heap.size := by omega
        clear hf ha has
        go_wp2_with fail
        go_region_held3 (fun w' => w'.cell? ⟨g, off + k * 2, none⟩ = some (.string a.1) ∧ w'.cell? ⟨g, off + k * 2 + 1, none⟩ = some (.slice A4 n4 c4)) (first | exact ⟨hc06, hc16⟩ | go_keep) (first
          | (go_at_call 28
             refine (i_BoxesGet A2 n2 c2 Y a.1 _ (by exact HYr.out.drewN 1) HsY.out hn2m).mono ?_
             intro e w6 ho
             rw [HGa.out] at ho
             obtain ⟨A6, n6, c6, rfl, hnc6, hc6, hst6, hb6⟩ := own1_ints ho
             have HS6 := hide hst6
             have hb6' : Below wr.heap.size wr w6 := (below_drewN' wr.heap.size wr 1).trans hb6
             have HFi6 := hide ((HFi.out.below (hb6'.mono hsz)).more (show w4.heap.size ≤ w6.heap.size from Nat.le_trans hsz hb6'.size))
             have Hb6 : Hid (Below w4.heap.size w4 w6) := hbr.out.trans (hb6'.mono hsz)
             have hc06 : w6.cell? ⟨g, off + k * 2, none⟩ = some (.string a.1) := (hb6'.cell (p := ⟨g, off + k * 2, none⟩) hgw).trans hc0
             have hc16 : w6.cell? ⟨g, off + k * 2 + 1, none⟩ = some (.slice A4 n4 c4) := (hb6'.cell (p := ⟨g, off + k * 2 + 1, none⟩) hgw).trans hc1
             have hn6m := Nat.le_trans hnc6 hc6
             clear ho hst6 hb6 hb6')
          | (go_at_call 22
             refine (l_sameI A6 n6 c6 A4 n4 c4 a.2 _ HS6.out HFi6.out hn6m).mono ?_
             rintro e w7 ⟨rfl, q7, rfl⟩))
        all_goals
          go_wp2_with fail
          go_roundw
          case rel => exact ⟨k + 1, by omega, by go_num, below_drewN Hb6.out q7⟩
          case measure => simp [intOf]; omega
    · go_wp2_with fail
      go_ret
      exact ⟨ret_bool (by first | rfl | (simp; omega)), Hb4.out.trans (hbr.out.mono Hb4.out.size)⟩
end Go.Proofs.Ytfncmkmhdddmiaa
