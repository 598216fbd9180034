/- Walks of FnBoxes, FnBoxesGet. -/
import Derived.Test.YtfncmkmhdddmiaaIbx
import Derived.Test.YtfncmkmhdddmiaaBp
import Derived.Test.YtfncmkmhdddmiaaBxr
import Derived.Test.YtfncmkmhdddmiaaSameB
import Derived.Test.YtfncmkmhdddmiaaDrawB2
import Derived.Test.YtfncmkmhdddmiaaApp
import Derived.Deep.RegionLaw
set_option linter.unusedVariables false
set_option linter.unusedSimpArgs false
namespace Go.Proofs.Ytfncmkmhdddmiaa
open Go.RowKit Go.BigFrame

theorem bput_in {L : List Int} (h : idsB L = true) {i : Int} (hi : i ∈ L) : bput L i = L := by
  have hd := idsB_desc h
  rw [bput_eq hd, show insD i L = L from desc_ext (insD_desc hd) hd fun x => by rw [insD_mem]; exact ⟨fun hx => hx.elim (fun e => e ▸ hi) id, .inr⟩]
  exact List.take_of_length_le (idsB_6 h)

theorem own_rdB {w : World} {base m : Nat} {v : Value} {xs : List Value} {Y : List BxV} (h : w.ownsRow base 40 2 v m xs) (e : xs = wcells Y) : ∃ A n c, v = .slice A n c ∧ Rd w w.heap.size 2 A n (wcells Y) ∧ n ≤ maxLen := by
  subst e
  obtain ⟨A, c, rfl⟩ := own_slice h
  exact ⟨A, m, c, rfl, Rd.of_own h, Nat.le_trans (own_cap h).1 (own_cap h).2⟩

set_option maxHeartbeats 1000000 in
set_option maxRecDepth 100000 in
theorem FnBoxes_walk (w : World) (A : Option Addr) (n c : Nat) (hc : Code w w.heap.size A n) (hnc : n ≤ c) (hm : n ≤ maxLen) (A0 : Option Addr) (n0 c0 : Nat) (hc0 : Code w w.heap.size A0 n0) (hnc0 : n0 ≤ c0) (hm0 : n0 ≤ maxLen) :
    Calls Try.prog 12 #[.slice A n c, .slice A0 n0 c0] w fun e w' => e = .returned (.bool true) ∧ Below w.heap.size w w' := by
  by_cases h : 1048576 < n
  · unfold maxLen at hm hm0
    go_enter Try.func12, Try.ntmps12
    go_wp2
    go_ret
    exact ⟨rfl, Below.refl _ _⟩
  by_cases h0 : 1048576 < n0
  · unfold maxLen at hm hm0
    go_enter Try.func12, Try.ntmps12
    go_wp2
    go_ret
    exact ⟨rfl, Below.refl _ _⟩
  go_enter Try.func12, Try.ntmps12
  obtain ⟨i1, hi1, hy0, hy1, hy2⟩ := info_parts' box_info
  have hU := Try.underlying31
  go_wp2_with fail
  refine (d_BoxesValid A n c w hc hnc (by omega)).mono ?_
  rintro e w1 ⟨v, X, rfl, ⟨A1, n1, c1, rfl, hacc, hnc1, hc1, hdr, hb1⟩⟩
  have Hacc1 := hide hacc
  have Hb1 := hide hb1
  have Hsm := hide hdr.small
  have hl := hide hacc.1
  have hn16 : n1 ≤ 6 := by have := hdr.1; have := hl.out; omega
  have hn1 : n1 ≤ maxLen := by unfold maxLen; omega
  clear hacc hb1 hdr hc hnc hc1
  go_wp2_with fail
  refine (i_Bs A1 n1 c1 X _ Hacc1.out Hsm.out hn1).mono ?_
  rintro e w2 ⟨rfl, hb2⟩
  have Hacc2 := hide (Hacc1.out.on hb2)
  have Hb2 := hide (Hb1.out.trans (hb2.mono Hb1.out.size))
  clear hb2
  go_wp2_with fail
  refine (s_Bs A1 n1 c1 X _ Hacc2.out Hsm.out hn1).mono ?_
  rintro e w3 ⟨rfl, hb3⟩
  have Hacc3 := hide (Hacc2.out.on hb3)
  have Hb3 := hide (Hb2.out.trans (hb3.mono Hb2.out.size))
  clear hb3 Hacc1 Hacc2
  cases hv : bxsB X
  · clear hv
    go_wp2_with fail
    go_ret
    exact ⟨rfl, Hb3.out⟩
  by_cases hz : n1 = 0
  · subst hz
    clear hv
    go_wp2_with fail
    go_ret
    exact ⟨rfl, Hb3.out⟩
  have hne : ((n1 : Int) == 0) = false := by rw [beq_eq_false_iff_ne]; omega
  obtain ⟨k, hk1, hk2, hkn⟩ := nat_mod n0 n1 (by omega)
  have hw1 : IntKind.i64.wrap ((k : Int) + 1) = (k : Int) + 1 := IntWalk.i64_in _ (by omega)
  have hX := hide (bxsB_drop1 hv k)
  have hY := hide (bxsB_twice (X := X) (k := k) (by have := hl.out; omega))
  have hXS : Hid (BSmall (X.take k ++ X.drop (k + 1))) := fun t ht => by
    rcases List.mem_append.1 ht with h1 | h1
    · exact Hsm.out t (List.mem_of_mem_take h1)
    · exact Hsm.out t (List.mem_of_mem_drop h1)
  have hYS : Hid (BSmall (X.take (k + 1) ++ X.drop k)) := fun t ht => by
    rcases List.mem_append.1 ht with h1 | h1
    · exact Hsm.out t (List.mem_of_mem_take h1)
    · exact Hsm.out t (List.mem_of_mem_drop h1)
  have HV := hide hv
  clear hv
  obtain ⟨Y, hYX, hRd, hFl⟩ := Hacc3.out.rdB
  have HYX := hide hYX
  have HRd := hide hRd
  have HFl := hide hFl
  clear hYX hRd hFl
  obtain ⟨E1, hE1, hE1s, _⟩ := slice_to hU hi1 hy1 A1 n1 c1 k k rfl (by omega) hnc1
  obtain ⟨D1, hD1, hD1s, _⟩ := slice_from hU hi1 hy1 A1 n1 c1 (k + 1) ((k : Int) + 1) (by omega) (by omega) hnc1
  obtain ⟨E2, hE2, hE2s, _⟩ := slice_to hU hi1 hy1 A1 n1 c1 (k + 1) ((k : Int) + 1) (by omega) (by omega) hnc1
  obtain ⟨D2, hD2, hD2s, _⟩ := slice_from hU hi1 hy1 A1 n1 c1 k k rfl (by omega) hnc1
  have SE1 : Hid (Rd w3 w3.heap.size 2 E1 k (wcells (Y.take k))) := by have h := hE1s _ _ _ HRd.out; rw [wcells_take] at h; exact h
  have SD1 : Hid (Rd w3 w3.heap.size 2 D1 (n1 - (k + 1)) (wcells (Y.drop (k + 1)))) := by have h := hD1s _ _ _ HRd.out; rw [wcells_drop] at h; exact h
  have SE2 : Hid (Rd w3 w3.heap.size 2 E2 (k + 1) (wcells (Y.take (k + 1)))) := by have h := hE2s _ _ _ HRd.out; rw [wcells_take] at h; exact h
  have SD2 : Hid (Rd w3 w3.heap.size 2 D2 (n1 - k) (wcells (Y.drop k))) := by have h := hD2s _ _ _ HRd.out; rw [wcells_drop] at h; exact h
  clear hE1s hD1s hE2s hD2s
  obtain ⟨b1, b2⟩ := b40 (m := 0 + k) (by omega)
  obtain ⟨b3, b4⟩ := b40 (m := 0 + k + (n1 - (k + 1))) (by omega)
  obtain ⟨b5, b6⟩ := b40 (m := 0 + (k + 1)) (by omega)
  obtain ⟨b7, b8⟩ := b40 (m := 0 + (k + 1) + (n1 - k)) (by omega)
  have B2 := hide b2
  have B4 := hide b4
  have B6 := hide b6
  have B8 := hide b8
  clear b2 b4 b6 b8
  go_wp2_with fail
  have own0 : (w3.alloc (.cells #[] 40)).ownsRow w3.heap.size 40 2 (.slice (some ⟨w3.heap.size, 0, none⟩) 0 0) 0 (wcells []) := World.ownsRow_lit w3 #[] 0 (Nat.le_refl _) (Nat.zero_le _) rfl
  have hbW : Below w3.heap.size w3 ((w3.alloc (.cells #[] 40)).drew) := ((Below.refl _ _).alloc (Nat.le_refl _) _).drew
  go_region_law (first
    | (refine step_append_rd _ rfl (.tmp 45) (.tmp 48) _ rfl w3.heap.size 40 i1 _ 2 40 hU hi1 hy0 hy1 hy2 rfl (by omega) _ 0 (wcells []) rfl (by exact own0.drew) w3.heap.size E1 k _ (wcells (Y.take k)) rfl (by exact SE1.out.below hbW) (FlB.one (HFl.out.take k)) b1 B2.out (by exact hbW.size) ?_
       intro v4 w4 own4 gr4 at4
       have hb4 : Below w3.heap.size w3 w4 := Below.own hbW gr4 own0.drew (Nat.le_refl _) hbW.size
       clear gr4 at4)
    | (refine step_append_rd _ rfl (.tmp 49) (.tmp 53) _ rfl w3.heap.size 40 i1 _ 2 40 hU hi1 hy0 hy1 hy2 rfl (by omega) _ (0 + k) (wcells [] ++ wcells (Y.take k)) rfl own4 w3.heap.size D1 (n1 - (k + 1)) _ (wcells (Y.drop (k + 1))) rfl (by exact SD1.out.below hb4) (FlB.one (HFl.out.drop (k + 1))) b3 B4.out hb4.size ?_
       intro v5 w5 own5 gr5 at5
       have hb5 : Below w3.heap.size w3 w5 := Below.own hb4 gr5 own4 (Nat.le_refl _) hb4.size
       obtain ⟨A5, m5, c5, rfl, HR5', hm5⟩ := own_rdB (Y := Y.take k ++ Y.drop (k + 1)) own5 (by rw [wcells_app]; rfl)
       have HR5 := hide HR5'
       clear HR5'
       clear gr5 at5 own4 own5))
  have SE2' := hide ((SE2.out.below hb5).more hb5.size)
  have SD2' := hide ((SD2.out.below hb5).more hb5.size)
  have own6 : (w5.alloc (.cells #[] 40)).ownsRow w5.heap.size 40 2 (.slice (some ⟨w5.heap.size, 0, none⟩) 0 0) 0 (wcells []) := World.ownsRow_lit w5 #[] 0 (Nat.le_refl _) (Nat.zero_le _) rfl
  have hbW6 : Below w5.heap.size w5 ((w5.alloc (.cells #[] 40)).drew) := ((Below.refl _ _).alloc (Nat.le_refl _) _).drew
  go_wp2_with fail
  go_region_law (first
    | (refine step_append_rd _ rfl (.tmp 55) (.tmp 59) _ rfl w5.heap.size 40 i1 _ 2 40 hU hi1 hy0 hy1 hy2 rfl (by omega) _ 0 (wcells []) rfl (by exact own6.drew) w5.heap.size E2 (k + 1) _ (wcells (Y.take (k + 1))) rfl (by exact SE2'.out.below hbW6) (FlB.one (HFl.out.take (k + 1))) b5 B6.out (by exact hbW6.size) ?_
       intro v7 w7 own7 gr7 at7
       have hb7 : Below w5.heap.size w5 w7 := Below.own hbW6 gr7 own6.drew (Nat.le_refl _) hbW6.size
       clear gr7 at7)
    | (refine step_append_rd _ rfl (.tmp 60) (.tmp 63) _ rfl w5.heap.size 40 i1 _ 2 40 hU hi1 hy0 hy1 hy2 rfl (by omega) _ (0 + (k + 1)) (wcells [] ++ wcells (Y.take (k + 1))) rfl own7 w5.heap.size D2 (n1 - k) _ (wcells (Y.drop k)) rfl (by exact SD2'.out.below hb7) (FlB.one (HFl.out.drop k)) b7 B8.out hb7.size ?_
       intro v8 w8 own8 gr8 at8
       have hb8 : Below w5.heap.size w5 w8 := Below.own hb7 gr8 own7 (Nat.le_refl _) hb7.size
       obtain ⟨A8, m8, c8, rfl, HR8', hm8⟩ := own_rdB (Y := Y.take (k + 1) ++ Y.drop k) own8 (by rw [wcells_app]; rfl)
       have HR8 := hide HR8'
       clear HR8'
       clear gr8 at8 own7 own8))
  have HFl5 := hide ((HFl.out.below hb5).more hb5.size)
  have HFl8 := hide ((HFl5.out.below hb8).more hb8.size)
  have ST5 : Hid (Bxs w8 w8.heap.size A5 m5 (X.take k ++ X.drop (k + 1))) := by
    have h := ((BxsP.of_rdB HR5.out ((HFl5.out.take k).app (HFl5.out.drop (k + 1)))).below hb8).up hb8.size
    rw [bxV_app, bxV_take, bxV_drop, HYX.out] at h; exact h
  have ST8 : Hid (Bxs w8 w8.heap.size A8 m8 (X.take (k + 1) ++ X.drop k)) := by
    have h := BxsP.of_rdB HR8.out ((HFl8.out.take (k + 1)).app (HFl8.out.drop k))
    rw [bxV_app, bxV_take, bxV_drop, HYX.out] at h; exact h
  have Hbf := hide (Hb3.out.trans ((hb5.mono Hb3.out.size).trans (hb8.mono (Nat.le_trans Hb3.out.size hb5.size))))
  clear HR5 HR8 hb5 hb8 own6 hbW6 own0 hbW
  go_wp2_with fail
  refine (i_Bs A5 m5 c5 _ _ ST5.out hXS.out hm5).mono ?_
  rintro e w9 ⟨rfl, hb9⟩
  rw [hX.out]
  go_wp2_with fail
  refine (i_Bs A8 m8 c8 _ _ (ST8.out.on hb9) hYS.out hm8).mono ?_
  rintro e w10 ⟨rfl, hb10⟩
  rw [hY.out]
  go_wp2_with fail
  go_ret
  exact ⟨rfl, Hbf.out.trans ((hb9.mono Hbf.out.size).trans (hb10.mono (Nat.le_trans Hbf.out.size hb9.size)))⟩

theorem bget_ne {X : List Bx} {s : ByteArray} (h : bgetM X s ≠ []) : bxsB X = true ∧ ∃ k : Nat, X[k]? = some (s, bgetM X s) := by
  cases hv : bxsB X with
  | false => exact absurd (bgetM_f hv) h
  | true =>
    refine ⟨rfl, ?_⟩
    rw [bgetM_t hv] at h ⊢
    obtain ⟨k, L, hk⟩ := bnms_mem (X := X) (s := s) (Classical.byContradiction fun hn => h (bget_none hn))
    have this : bget X s = L := bget_at (bxsB_asc hv) hk
    exact ⟨k, by rw [hk, this]⟩

set_option maxHeartbeats 1000000 in
set_option maxRecDepth 100000 in
theorem FnBoxesGet_walk (w : World) (A : Option Addr) (n c : Nat) (hc : Code w w.heap.size A n) (hnc : n ≤ c) (hm : n ≤ maxLen) (A0 : Option Addr) (n0 c0 : Nat) (hc0 : Code w w.heap.size A0 n0) (hnc0 : n0 ≤ c0) (hm0 : n0 ≤ maxLen) :
    Calls Try.prog 11 #[.slice A n c, .slice A0 n0 c0] w fun e w' => e = .returned (.bool true) ∧ Below w.heap.size w w' := by
  by_cases h : 1048576 < n
  · unfold maxLen at hm hm0
    go_enter Try.func11, Try.ntmps11
    go_wp2
    go_ret
    exact ⟨rfl, Below.refl _ _⟩
  by_cases h0 : 1048576 < n0
  · unfold maxLen at hm hm0
    go_enter Try.func11, Try.ntmps11
    go_wp2
    go_ret
    exact ⟨rfl, Below.refl _ _⟩
  go_enter Try.func11, Try.ntmps11
  go_wp2_with fail
  refine (d_BoxesGet A n c w hc hnc (by omega)).mono ?_
  rintro e w1 ⟨v, X, s, rfl, ⟨A1, n1, c1, rfl, hacc, hnc1, hc1, hdr, hb1⟩, hs5⟩
  have Hacc1 := hide hacc
  have Hb1 := hide hb1
  have Hsm := hide hdr.small
  have hl := hide hacc.1
  have hn16 : n1 ≤ 6 := by have := hdr.1; have := hl.out; omega
  have hn1 : n1 ≤ maxLen := by unfold maxLen; omega
  clear hacc hb1 hdr hc hnc hc1
  go_wp2_with fail
  refine (i_BoxesGet A1 n1 c1 X s _ Hacc1.out Hsm.out hn1).mono ?_
  intro e w2 ho
  obtain ⟨A2, n2, c2, rfl, hnc2, hc2, hst2, hb2⟩ := own1_ints ho
  have Hacc2 := hide (Hacc1.out.on hb2)
  have Hb2 := hide (Hb1.out.trans (hb2.mono Hb1.out.size))
  have Hst2 := hide hst2
  have hn2m := Nat.le_trans hnc2 hc2
  clear ho hb2 hst2 hc2
  go_wp2_with fail
  refine (s_BoxesGet A1 n1 c1 X s _ Hacc2.out Hsm.out hn1).mono ?_
  intro e w3 ho
  obtain ⟨A3, n3, c3, rfl, hnc3, hc3, hst3, hb3⟩ := own1_ints ho
  have Hacc3 := hide (Hacc2.out.on hb3)
  have Hst23 := hide (Hst2.out.on hb3)
  have Hst3 := hide hst3
  have Hb3 := hide (Hb2.out.trans (hb3.mono Hb2.out.size))
  clear ho hb3 hst3 hc3
  go_wp2_with fail
  refine (l_sameI A2 n2 c2 A3 n3 c3 _ _ Hst23.out Hst3.out hn2m).mono ?_
  rintro e w4 ⟨rfl, q4, rfl⟩
  have HX4 : Hid (Bxs (w3.drewN q4) (w3.drewN q4).heap.size A1 n1 X) := Hacc3.out.drewN q4
  have HY4 : Hid (Ints (w3.drewN q4) (w3.drewN q4).heap.size A2 n2 (bgetM X s)) := Hst23.out.drewN q4
  have HZ4 : Hid (Ints (w3.drewN q4) (w3.drewN q4).heap.size A3 n3 (bgetM X s)) := Hst3.out.drewN q4
  have Hb4 : Hid (Below w.heap.size w (w3.drewN q4)) := below_drewN Hb3.out q4
  clear Hst23 Hst3 Hst2 Hacc2 Hacc3 Hb3
  generalize w3.drewN q4 = w4 at *
  obtain rfl : n2 = n3 := HY4.out.1.symm.trans HZ4.out.1
  by_cases h0 : n2 = 0
  · subst h0
    go_wp2_with fail
    refine (l_sameI A2 0 c2 A3 0 c3 _ _ HY4.out HZ4.out hn2m).mono ?_
    rintro e w5 ⟨rfl, q5, rfl⟩
    go_wp2_with fail
    go_ret
    exact ⟨rfl, below_drewN Hb4.out q5⟩
  have hpos : ((n2 : Int) == 0) = false := by rw [beq_eq_false_iff_ne]; omega
  have hne : bgetM X s ≠ [] := fun e => by have := HY4.out.1; rw [e] at this; simp at this; omega
  obtain ⟨hv, k0, hk0⟩ := bget_ne hne
  have HV := hide hv
  have HK0 := hide hk0
  have HLv : Hid (idsB (bgetM X s) = true) := by rw [bgetM_t hv]; exact bget_valid hv s
  have HG : Hid (∀ (k : Nat) (a : Bx), X[k]? = some a → a.1 = s → a.2 = bgetM X s) := fun k a ha e => by
    rw [bgetM_t HV.out, ← e]; exact (bget_at (bxsB_asc HV.out) ha).symm
  obtain ⟨m, hm1, hm2, hmn⟩ := nat_mod n0 n2 (by omega)
  obtain ⟨i, hi⟩ : ∃ i, (bgetM X s)[m]? = some i := ⟨(bgetM X s)[m]'(by have := HY4.out.1; omega), List.getElem?_eq_getElem _⟩
  obtain ⟨g, off, rfl, hg, hcell⟩ := HY4.out.at' hi
  have HP : Hid (bPutM (bgetM X s) i = some (bgetM X s)) := by
    have hmem := List.mem_of_getElem? hi
    have hin := idsB_in HLv.out hmem
    rw [Hid, bPutM_t HLv.out (inR_t hin.1 hin.2), bput_in HLv.out hmem]
  have hwrap : IntKind.i64.wrap (m : Int) = (m : Int) := IntWalk.i64_in _ (by unfold maxLen at hn2m; omega)
  have hz : ¬ ((n2 : Int) = 0) := by omega
  have H0 := hide h0
  clear hv hk0 hne hi h0
  go_wp2_with fail
  refine (i_BoxPut _ n2 c2 (bgetM X s) i _ HY4.out hn2m).mono ?_
  intro e w5 ho
  rw [HP.out] at ho
  obtain ⟨A5, n5, c5, rfl, hnc5, hc5, hst5, hb5⟩ := own2_ints ho
  simp only [Option.getD_some, Option.isSome_some] at hst5 ⊢
  have HS5 := hide hst5
  have HX5 := hide (HX4.out.on hb5)
  have HY5 := hide (HY4.out.on hb5)
  have Hb5 := hide (Hb4.out.trans (hb5.mono Hb4.out.size))
  clear ho hst5 hb5 hcell HX4 HY4 HZ4 Hb4
  go_wp2_with fail
  go_loop [11] (fun v => ∃ k : Nat, k ≤ n1 ∧ v = .int .i64 k ∧ Hid (∀ (j : Nat) (a : Bx), j < k → X[j]? = some a → a.1 ≠ s)) (fun v => n1 - (intOf v).toNat)
  case atStart => exact ⟨0, Nat.zero_le _, rfl, fun j a hj => absurd hj (by omega)⟩
  case round =>
    obtain ⟨k, hk, rfl, hu⟩ := hrel
    by_cases hlt : k < n1
    · obtain ⟨a, ha⟩ : ∃ a, X[k]? = some a := ⟨X[k]'(by have := hl.out; omega), List.getElem?_eq_getElem _⟩
      obtain ⟨g2, off2, A4, n4, c4, rfl, hg2, hd0, hd1, hn4, hm4, hf⟩ := HX5.out.at' ha
      by_cases has : a.1 = s
      · have hL := HG.out k a ha has
        have HFi : Hid (Ints w5 w5.heap.size A4 n4 (bgetM X s)) := by have h := hf.ints; rw [hL] at h; exact h
        subst has
        clear hL hf ha hu
        go_wp2_with fail
        refine (l_sameI A5 n5 c5 _ n2 c2 _ _ HS5.out HY5.out (Nat.le_trans hnc5 hc5)).mono ?_
        rintro e w6 ⟨rfl, q6, rfl⟩
        have hd2 : (w5.drewN q6).cell? ⟨g2, off2 + k * 2 + 1, none⟩ = some (.slice A4 n4 c4) := hd1
        go_wp2_with fail
        refine (l_sameI A4 n4 c4 _ n2 c2 _ _ (HFi.out.drewN q6) (HY5.out.drewN q6) hm4).mono ?_
        rintro e w7 ⟨rfl, q7, rfl⟩
        go_wp2_with fail
        go_ret
        exact ⟨rfl, below_drewN Hb5.out _⟩
      · have H : Hid (∀ (j : Nat) (a : Bx), j < k + 1 → X[j]? = some a → a.1 ≠ s) := fun j b hj hb => by
          rcases Nat.lt_or_ge j k with h | h
          · exact hu.out j b h hb
          · obtain rfl : j = k := by omega
            rw [ha] at hb; cases hb; exact has
        have hne0 := txt_ne has
        clear hf hd1 ha has
        go_wp2_with fail
        go_round
        case rel => exact ⟨k + 1, by omega, by go_num, H⟩
        case measure => simp [intOf]; omega
    · exact absurd rfl (hu.out k0 _ (by have := (List.getElem?_eq_some_iff.1 HK0.out).1; have := hl.out; omega) HK0.out)
end Go.Proofs.Ytfncmkmhdddmiaa
