/- Walks of FnNames and FnPutOthers. -/
import Derived.Test.YtnipoaohkoancaaLNames3
set_option linter.unusedVariables false
set_option linter.unusedSimpArgs false
namespace Go.Proofs.Ytnipoaohkoancaa
open Go.RowKit

set_option maxHeartbeats 4000000 in
set_option maxRecDepth 100000 in
theorem FnNames_walk (w : World) (A : Option Addr) (n c : Nat) (hc : Code w w.heap.size A n) (hnc : n ≤ c) (hm : n ≤ maxLen) (A0 : Option Addr) (n0 c0 : Nat) (hc0 : Code w w.heap.size A0 n0) (hnc0 : n0 ≤ c0) (hm0 : n0 ≤ maxLen) :
    Calls Try.prog 10 #[.slice A n c, .slice A0 n0 c0] w fun e w' => e = .returned (.bool true) ∧ Below w.heap.size w w' := by
  by_cases h : 1048576 < n
  · unfold maxLen at hm hm0
    go_enter Try.func10, Try.ntmps10
    go_wp2
    go_ret
    exact ⟨rfl, Below.refl _ _⟩
  by_cases h0 : 1048576 < n0
  · unfold maxLen at hm hm0
    go_enter Try.func10, Try.ntmps10
    go_wp2
    go_ret
    exact ⟨rfl, Below.refl _ _⟩
  go_enter Try.func10, Try.ntmps10
  obtain ⟨i0, hi0, hz0, hz1, hz2⟩ := info_parts str_info
  have hU := Try.underlying23
  go_wp2_with fail
  refine (d_NamesValid A n c w hc hnc (by omega)).mono ?_
  rintro e w1 ⟨A1, n1, c1, L, rfl, hst1, hnc1, hsh, hb1⟩
  have hn1 : n1 ≤ maxLen := by have h1 := hst1.1; have h2 := hsh.1; unfold maxLen; omega
  have hn13 : n1 ≤ 13 := by have h1 := hst1.1; have h2 := hsh.1; omega
  have HST := hide hst1
  have HS := hide (small_of_short hsh)
  clear hst1 hsh
  go_wp2_with fail
  refine (i_NamesValid A1 n1 c1 L _ HST.out HS.out hn1).mono ?_
  rintro e w2 ⟨rfl, rfl⟩
  go_wp2_with fail
  refine (s_NamesValid A1 n1 c1 L _ HST.out HS.out hn1).mono ?_
  rintro e w2 ⟨rfl, q, rfl⟩
  cases hv : nsB L
  · go_wp2_with fail
    go_ret
    exact ⟨rfl, below_drewN hb1 q⟩
  by_cases hz : n1 = 0
  · subst hz
    clear hv
    go_wp2_with fail
    go_ret
    exact ⟨rfl, below_drewN hb1 q⟩
  have hne : ((n1 : Int) == 0) = false := by rw [beq_eq_false_iff_ne]; omega
  obtain ⟨k, hk1, hk2, hkn⟩ := mod_nat n0 n1 (by omega)
  have hw1 : IntKind.i64.wrap ((k : Int) + 1) = (k : Int) + 1 := IntWalk.i64_in _ (by omega)
  have hX := hide (nsB_dropAt hv k)
  have hY := hide (nsB_twice (L := L) (k := k) (by have := HST.out.1; omega))
  have hXS := hide (nsB_small hX.out)
  have HV := hide hv
  clear hv
  have hYS : Hid (Small (L.take (k + 1) ++ L.drop k)) := fun t ht => by
    rcases List.mem_append.1 ht with h1 | h1
    · exact HS.out t (List.mem_of_mem_take h1)
    · exact HS.out t (List.mem_of_mem_drop h1)
  obtain ⟨E1, hE1, _, hE1s⟩ := slice_to hU hi0 hz1 A1 n1 c1 k k rfl (by omega) hnc1
  obtain ⟨D1, hD1, _, hD1s⟩ := slice_from hU hi0 hz1 A1 n1 c1 (k + 1) ((k : Int) + 1) (by omega) (by omega) hnc1
  obtain ⟨E2, hE2, _, hE2s⟩ := slice_to hU hi0 hz1 A1 n1 c1 (k + 1) ((k : Int) + 1) (by omega) (by omega) hnc1
  obtain ⟨D2, hD2, _, hD2s⟩ := slice_from hU hi0 hz1 A1 n1 c1 k k rfl (by omega) hnc1
  have SE1 : Hid (Strs (w1.drewN q) (w1.drewN q).heap.size E1 k (L.take k)) := hE1s _ _ _ HST.out
  have SD1 : Hid (Strs (w1.drewN q) (w1.drewN q).heap.size D1 (n1 - (k + 1)) (L.drop (k + 1))) := hD1s _ _ _ hz1 HST.out
  have SE2 : Hid (Strs (w1.drewN q) (w1.drewN q).heap.size E2 (k + 1) (L.take (k + 1))) := hE2s _ _ _ HST.out
  have SD2 : Hid (Strs (w1.drewN q) (w1.drewN q).heap.size D2 (n1 - k) (L.drop k)) := hD2s _ _ _ hz1 HST.out
  clear hE1s hD1s hE2s hD2s
  have b1 : 0 + k ≤ maxLen := by unfold maxLen; omega
  have b2 : (0 + k) * 16 ≤ 140737488355328 := by omega
  have b3 : 0 + k + (n1 - (k + 1)) ≤ maxLen := by unfold maxLen; omega
  have b4 : (0 + k + (n1 - (k + 1))) * 16 ≤ 140737488355328 := by omega
  have b5 : 0 + (k + 1) ≤ maxLen := by unfold maxLen; omega
  have b6 : (0 + (k + 1)) * 16 ≤ 140737488355328 := by omega
  have b7 : 0 + (k + 1) + (n1 - k) ≤ maxLen := by unfold maxLen; omega
  have b8 : (0 + (k + 1) + (n1 - k)) * 16 ≤ 140737488355328 := by omega
  have hbq : Below w.heap.size w (w1.drewN q) := below_drewN hb1 q
  clear hb1 hc hnc
  go_wp2_with fail
  generalize w1.drewN q = W at *
  have own0 : (W.alloc (.cells #[] 9)).ownsRow W.heap.size 9 1 (.slice (some ⟨W.heap.size, 0, none⟩) 0 0) 0 [] := World.ownsRow_lit W #[] 0 (Nat.le_refl _) (Nat.zero_le _) rfl
  have hbW : Below W.heap.size W ((W.alloc (.cells #[] 9)).drew) := ((Below.refl _ _).alloc (Nat.le_refl _) _).drew
  go_region_law (first
    | (refine step_append_rd _ rfl (.tmp 45) (.tmp 48) _ rfl W.heap.size 9 i0 _ 1 16 hU hi0 hz0 hz1 hz2 rfl (by omega) _ 0 [] rfl (by exact own0.drew) W.heap.size E1 k _ ((L.take k).map Value.string) rfl (by exact Rd.of_strs (SE1.out.below hbW)) (one_strs _) b1 b2 (by exact hbW.size) ?_
       intro v2 w2 own2 gr2 at2
       have hb2 : Below W.heap.size W w2 := Below.own hbW gr2 own0.drew (Nat.le_refl _) hbW.size
       clear gr2 at2)
    | (refine step_append_rd _ rfl (.tmp 49) (.tmp 53) _ rfl W.heap.size 9 i0 _ 1 16 hU hi0 hz0 hz1 hz2 rfl (by omega) _ (0 + k) ([] ++ (L.take k).map Value.string) rfl own2 W.heap.size D1 (n1 - (k + 1)) _ ((L.drop (k + 1)).map Value.string) rfl (by exact Rd.of_strs (SD1.out.below hb2)) (one_strs _) b3 b4 hb2.size ?_
       intro v3 w3 own3 gr3 at3
       have hb3 : Below W.heap.size W w3 := Below.own hb2 gr3 own2 (Nat.le_refl _) hb2.size
       obtain ⟨A3, m3, c3, rfl, own3'⟩ := OwnL.mk (L := dropAt L k) own3 (by rw [List.nil_append, ← List.map_append]; rfl)
       clear gr3 at3 own2 own3))
  have SE2' := hide ((SE2.out.below hb3).more hb3.size)
  have SD2' := hide ((SD2.out.below hb3).more hb3.size)
  have own4 : (w3.alloc (.cells #[] 9)).ownsRow w3.heap.size 9 1 (.slice (some ⟨w3.heap.size, 0, none⟩) 0 0) 0 [] := World.ownsRow_lit w3 #[] 0 (Nat.le_refl _) (Nat.zero_le _) rfl
  have hbW4 : Below w3.heap.size w3 ((w3.alloc (.cells #[] 9)).drew) := ((Below.refl _ _).alloc (Nat.le_refl _) _).drew
  go_wp2_with fail
  go_region_law (first
    | (refine step_append_rd _ rfl (.tmp 55) (.tmp 59) _ rfl w3.heap.size 9 i0 _ 1 16 hU hi0 hz0 hz1 hz2 rfl (by omega) _ 0 [] rfl (by exact own4.drew) w3.heap.size E2 (k + 1) _ ((L.take (k + 1)).map Value.string) rfl (by exact Rd.of_strs (SE2'.out.below hbW4)) (one_strs _) b5 b6 (by exact hbW4.size) ?_
       intro v5 w5 own5 gr5 at5
       have hb5 : Below w3.heap.size w3 w5 := Below.own hbW4 gr5 own4.drew (Nat.le_refl _) hbW4.size
       clear gr5 at5)
    | (refine step_append_rd _ rfl (.tmp 60) (.tmp 63) _ rfl w3.heap.size 9 i0 _ 1 16 hU hi0 hz0 hz1 hz2 rfl (by omega) _ (0 + (k + 1)) ([] ++ (L.take (k + 1)).map Value.string) rfl own5 w3.heap.size D2 (n1 - k) _ ((L.drop k).map Value.string) rfl (by exact Rd.of_strs (SD2'.out.below hb5)) (one_strs _) b7 b8 hb5.size ?_
       intro v6 w6 own6 gr6 at6
       have hb6 : Below w3.heap.size w3 w6 := Below.own hb5 gr6 own5 (Nat.le_refl _) hb5.size
       obtain ⟨A6, m6, c6, rfl, own6'⟩ := OwnL.mk (L := L.take (k + 1) ++ L.drop k) own6 (by rw [List.nil_append, ← List.map_append])
       clear gr6 at6 own5 own6))
  have hlen := HST.out.1
  have ST3 := hide (((Strs.of_own own3').below hb6).more hb6.size)
  have ST6 := hide (Strs.of_own own6')
  have hm3 : m3 ≤ maxLen := by have h1 := ST3.out.1; have h2 := (dropAt_sub L k).length_le; unfold maxLen; omega
  have hm6 : m6 ≤ maxLen := by
    have h1 := ST6.out.1
    rw [List.length_append, List.length_take, List.length_drop] at h1
    unfold maxLen; omega
  have hbf : Below w.heap.size w w6 := hbq.trans ((hb3.mono hbq.size).trans (hb6.mono (Nat.le_trans hbq.size hb3.size)))
  clear hlen
  go_wp2_with fail
  refine (i_NamesValid A3 m3 c3 _ _ ST3.out hXS.out hm3).mono ?_
  rintro e w7 ⟨rfl, rfl⟩
  rw [hX.out]
  go_wp2_with fail
  refine (i_NamesValid A6 m6 c6 _ _ ST6.out hYS.out hm6).mono ?_
  rintro e w7 ⟨rfl, rfl⟩
  rw [hY.out]
  go_wp2_with fail
  go_ret
  exact ⟨rfl, hbf⟩

theorem filt_yes {L : List ByteArray} {s t : ByteArray} {k : Nat} (ht : L[k]? = some t) (h : t ≠ s) : filt (L.take (k + 1)) s = filt (L.take k) s ++ [t] := by
  rw [take_one ht]; unfold filt; rw [List.filter_append]; simp [h]
theorem filt_no {L : List ByteArray} {s : ByteArray} {k : Nat} (ht : L[k]? = some s) : filt (L.take (k + 1)) s = filt (L.take k) s := by
  rw [take_one ht]; unfold filt; rw [List.filter_append]; simp
/-- The first loop of FnPutOthers behind k rounds. -/
def FAt (W : World) (L : List ByteArray) (s : ByteArray) (k : Nat) (v : Value) (m : Nat) (wr : World) : Prop :=
  ∃ X : List ByteArray, X = filt (L.take k) s ∧ wr.ownsRow W.heap.size 9 1 v m (X.map Value.string) ∧ m ≤ k ∧ v.ownBlock ≠ some (W.heap.size + 1) ∧ Below W.heap.size W wr ∧ Blk wr (W.heap.size + 1) 9 #[]
/-- The second one. -/
def GAt (W : World) (M : List ByteArray) (s : ByteArray) (vx : Value) (mx : Nat) (X : List ByteArray) (k : Nat) (v : Value) (m : Nat) (wr : World) : Prop :=
  ∃ Y : List ByteArray, Y = filt (M.take k) s ∧ wr.ownsRow W.heap.size 9 1 v m (Y.map Value.string) ∧ m ≤ k ∧ wr.ownsRow W.heap.size 9 1 vx mx (X.map Value.string) ∧ v.ownBlock ≠ vx.ownBlock ∧ Below W.heap.size W wr

set_option maxHeartbeats 4000000 in
set_option maxRecDepth 100000 in
theorem FnPutOthers_walk (w : World) (A : Option Addr) (n c : Nat) (hc : Code w w.heap.size A n) (hnc : n ≤ c) (hm : n ≤ maxLen) :
    Calls Try.prog 4 #[.slice A n c] w fun e w' => e = .returned (.bool true) ∧ Below w.heap.size w w' := by
  by_cases h : 1048576 < n
  · unfold maxLen at hm
    go_enter Try.func4, Try.ntmps4
    go_wp2
    go_ret
    exact ⟨rfl, Below.refl _ _⟩
  go_enter Try.func4, Try.ntmps4
  obtain ⟨i0, hi0, hz0, hz1, hz2⟩ := info_parts str_info
  have hU := Try.underlying23
  go_wp2_with fail
  refine (d_NamesPut A n c w hc hnc (by omega)).mono ?_
  rintro e w1 ⟨A1, n1, c1, L, s, rfl, ⟨hst1, hnc1, hsh, hb1⟩, hs5⟩
  have hS := small_of_short hsh
  have hsm : s.size ≤ maxLen := by unfold maxLen; omega
  have hn1 : n1 ≤ maxLen := by have h1 := hst1.1; have h2 := hsh.1; unfold maxLen; omega
  have hn13 : n1 ≤ 13 := by have h1 := hst1.1; have h2 := hsh.1; omega
  have HST1 := hide hst1
  have HS := hide hS
  clear hst1 hS hsh
  go_wp2_with fail
  refine (i_NamesPut A1 n1 c1 L s _ HST1.out HS.out hnc1 hn1 hsm).mono ?_
  rintro e w2 ⟨v2, rfl, ⟨A2, n2, c2, rfl, own2⟩, hb2⟩
  have HST2 := hide ((HST1.out.below hb2).more hb2.size)
  go_wp2_with fail
  refine (s_NamesPut A1 n1 c1 L s _ HST2.out HS.out hnc1 hn1 hsm).mono ?_
  rintro e w3 ⟨v3, rfl, ⟨A3, n3, c3, rfl, own3⟩, hb3⟩
  have hb13 : Below w.heap.size w w3 := hb1.trans ((hb2.mono hb1.size).trans (hb3.mono (Nat.le_trans hb1.size hb2.size)))
  have HST3 := hide ((HST2.out.below hb3).more hb3.size)
  have hst2 := hide (((Strs.of_own own2).below hb3).more hb3.size)
  have hst3 := hide (Strs.of_own own3)
  cases ho : putM L s
  · rw [ho] at own2 own3 hst2 hst3
    have hz2 := own_len' own2
    have hz3 := own_len' own3
    simp only [Option.getD_none, List.length_nil] at hz2 hz3
    subst hz2 hz3
    clear own2 own3
    go_wp2_with fail
    refine (l_same_t A2 0 c2 A3 0 c3 [] _ hst2.out hst3.out (Nat.zero_le _) (Nat.zero_le _)).mono ?_
    rintro e w4 ⟨rfl, q4, rfl⟩
    go_wp2_with fail
    refine (l_same_t A2 0 c2 A3 0 c3 [] _ (hst2.out.drewN q4) (hst3.out.drewN q4) (Nat.zero_le _) (Nat.zero_le _)).mono ?_
    rintro e w5 ⟨rfl, q5, rfl⟩
    go_wp2_with fail
    go_ret
    exact ⟨rfl, below_drewN hb13 _⟩
  rename_i M
  rw [ho] at own2 own3 hst2 hst3
  have HO := hide ho
  have hnc2 := (own_cap own2).1
  have hnc3 := (own_cap own3).1
  clear ho own2 own3
  have hM := hide (hst2.out.1)
  have hM3 := hide (hst3.out.1)
  have hlM : M.length ≤ 11 := putM_len HO.out
  simp only [Option.getD_some] at hM hM3
  have hn2 : n2 ≤ 11 := by have := hM.out; omega
  have hn3 : n3 ≤ 11 := by have := hM3.out; omega
  have hn2m : n2 ≤ maxLen := by unfold maxLen; omega
  have hn3m : n3 ≤ maxLen := by unfold maxLen; omega
  go_wp2_with fail
  refine (l_same_t A2 n2 c2 A3 n3 c3 M _ hst2.out hst3.out hn2m hn3m).mono ?_
  rintro e w4 ⟨rfl, q4, rfl⟩
  have HSM := hide (putM_small HO.out)
  have hb14 := below_drewN hb13 q4
  have HP := hide (putM_others HO.out)
  have HW2 : Hid (Strs (w3.drewN q4) (w3.drewN q4).heap.size A2 n2 M) := hst2.out.drewN q4
  have HW1 : Hid (Strs (w3.drewN q4) (w3.drewN q4).heap.size A1 n1 L) := HST3.out.drewN q4
  clear hc hnc hb1 hb2 hb3 hb13
  generalize w3.drewN q4 = W at *
  go_wp2_with fail
  go_loopw [9, 11] (fun v i wr => ∃ k m : Nat, k ≤ n1 ∧ i = .int .i64 k ∧ FAt W L s k v m wr) (fun _ i _ => n1 - (intOf i).toNat)
  case atStart =>
    refine ⟨0, 0, Nat.zero_le _, rfl, [], rfl, (World.ownsRow_lit W #[] 0 (Nat.le_refl _) (Nat.zero_le _) rfl).alloc _, Nat.le_refl _, by simp [Value.ownBlock], ((Below.refl _ _).alloc (Nat.le_refl _) _).alloc (by simp) _, ?_⟩
    have h := Blk.new (W.alloc (.cells #[] 9)) 9 #[]
    rw [World.size_alloc] at h
    exact h
  case round =>
    obtain ⟨k, m, hk, rfl, X, hX, hown, hmk, hnb, hbr, hblk⟩ := hrel
    have HX := hide hX
    clear hX
    have b1 : m + 1 ≤ maxLen := by unfold maxLen; omega
    have b2 : (m + 1) * 16 ≤ 140737488355328 := by omega
    have hgt := hbr.size
    have hgt2 := hblk.lt
    by_cases hlt : k < n1
    · obtain ⟨g, off, rfl, hgb, hcell⟩ := HW1.out.2 (by omega)
      obtain ⟨t, ht⟩ : ∃ t, L[k]? = some t := ⟨L[k]'(by have := HW1.out.1; omega), List.getElem?_eq_getElem _⟩
      have hck : wr.cell? ⟨g, off + k, none⟩ = some (.string t) := (hbr.cell hgb).trans (hcell k t ht)
      clear hcell
      by_cases e : t = s
      · subst e
        have HF := hide (filt_no ht)
        clear ht
        go_wp2_with fail
        go_roundw
        case rel => exact ⟨k + 1, m, by omega, by go_num, X, by rw [HF.out]; exact HX.out, hown, by omega, hnb, hbr, hblk⟩
        case measure => simp [intOf]; omega
      · have HF := hide (filt_yes ht e)
        have hne := beq_of_ne e
        clear ht e
        go_wp2_with (
          (at_builtin
           refine wpList_append_rd _ rfl (.tmp 68) (.tmp 73) _ rfl W.heap.size 9 i0 _ 1 16 hU hi0 hz0 hz1 hz2 rfl (by omega) u9 m (X.map Value.string) rfl (hown.alloc _) (wr.heap.size + 1) (some ⟨wr.heap.size, 0, none⟩) 1 _ [Value.string t] rfl (Rd.one _ _ _) (one_strs [t]) b1 b2 (by simp; omega) ?_
           intro v5 w5 own5 gr5 at5
           have hb5 : Below W.heap.size W w5 := Below.own (hbr.alloc hgt _) gr5 (hown.alloc _) (Nat.le_refl _) (by simp; omega)
           have hbk5 : Blk w5 (W.heap.size + 1) 9 #[] := (hblk.alloc _).own gr5 hnb
           have hnb5 : v5.ownBlock ≠ some (W.heap.size + 1) := by
             rcases at5 with e | e
             · rw [e]; exact hnb
             · rw [e]; intro h; simp at h; omega
           clear gr5 at5))
        go_roundw
        case rel => exact ⟨k + 1, m + 1, by omega, by go_num, X ++ [t], by rw [HF.out, HX.out], by rw [List.map_append]; exact own5, by omega, hnb5, hb5, hbk5⟩
        case measure => simp [intOf]; omega
    · have HXL : Hid (X = filt L s) := by rw [HX.out, List.take_of_length_le (by have := HW1.out.1; omega)]; rfl
      go_wp2_with fail
      obtain ⟨W0, hW0⟩ : ∃ W0 : World, W0 = wr := ⟨_, rfl⟩
      subst hW0
      go_loopw [10, 12] (fun v i wr => ∃ k m2 : Nat, k ≤ n2 ∧ i = .int .i64 k ∧ GAt W M s u9 m X k v m2 wr) (fun _ i _ => n2 - (intOf i).toNat)
      case atStart =>
        exact ⟨0, 0, Nat.zero_le _, rfl, [], rfl, ⟨rfl, .inr ⟨_, 0, #[], rfl, by omega, hblk, Nat.le_refl _, Nat.zero_le _, rfl, rfl⟩⟩, Nat.le_refl _, hown, fun h => hnb h.symm, hbr⟩
      case round =>
        obtain ⟨k2, m2, hk2, rfl, Y, hY, hownY, hmk2, hownX, hnb2, hbr2⟩ := hrel
        have HY := hide hY
        clear hY
        have b3 : m2 + 1 ≤ maxLen := by unfold maxLen; omega
        have b4 : (m2 + 1) * 16 ≤ 140737488355328 := by omega
        have hgt3 := hbr2.size
        by_cases hlt2 : k2 < n2
        · obtain ⟨g, off, rfl, hgb, hcell⟩ := HW2.out.2 (by omega)
          obtain ⟨t, ht⟩ : ∃ t, M[k2]? = some t := ⟨M[k2]'(by have := HW2.out.1; omega), List.getElem?_eq_getElem _⟩
          have hck : wr.cell? ⟨g, off + k2, none⟩ = some (.string t) := (hbr2.cell hgb).trans (hcell k2 t ht)
          clear hcell
          by_cases e : t = s
          · subst e
            have HF := hide (filt_no ht)
            clear ht
            go_wp2_with fail
            go_roundw
            case rel => exact ⟨k2 + 1, m2, by omega, by go_num, Y, by rw [HF.out]; exact HY.out, hownY, by omega, hownX, hnb2, hbr2⟩
            case measure => simp [intOf]; omega
          · have HF := hide (filt_yes ht e)
            have hne := beq_of_ne e
            clear ht e
            go_wp2_with (
              (at_builtin
               refine wpList_append_rd _ rfl (.tmp 87) (.tmp 92) _ rfl W.heap.size 9 i0 _ 1 16 hU hi0 hz0 hz1 hz2 rfl (by omega) u10 m2 (Y.map Value.string) rfl (hownY.alloc _) (wr.heap.size + 1) (some ⟨wr.heap.size, 0, none⟩) 1 _ [Value.string t] rfl (Rd.one _ _ _) (one_strs [t]) b3 b4 (by simp; omega) ?_
               intro v5 w5 own5 gr5 at5
               have hb5 : Below W.heap.size W w5 := Below.own (hbr2.alloc hgt3 _) gr5 (hownY.alloc _) (Nat.le_refl _) (by simp; omega)
               have hx5 := (hownX.alloc (.cells #[Value.string t] 9)).kept gr5 (.inr (fun h => hnb2 h.symm))
               have hnb5 : v5.ownBlock ≠ u9.ownBlock := by
                 rcases at5 with e | e
                 · rw [e]; exact hnb2
                 · rw [e]; intro h
                   have := (hownX.lt _ h.symm).2
                   simp at this; omega
               clear gr5 at5))
            go_roundw
            case rel => exact ⟨k2 + 1, m2 + 1, by omega, by go_num, Y ++ [t], by rw [HF.out, HY.out], by rw [List.map_append]; exact own5, by omega, hx5, hnb5, hb5⟩
            case measure => simp [intOf]; omega
        · have HYL : Hid (Y = X) := by rw [HY.out, HXL.out, HP.out.1, List.take_of_length_le (by have := HW2.out.1; omega)]; rfl
          have hlen : Hid (((n2 : Int) == (m2 : Int) + 1) = true) := by
            show _ = true
            rw [beq_iff_eq]
            have h1 := HP.out.2
            rw [← HP.out.1, ← HXL.out, ← HYL.out, own_len hownY] at h1
            have h2 := HW2.out.1
            omega
          obtain ⟨Ax, nx, cx, rfl, ownX'⟩ := OwnL.mk (L := X) hownX rfl
          obtain ⟨Ay, ny, cy, rfl, ownY'⟩ := OwnL.mk (L := X) hownY (by rw [HYL.out])
          have hnx := own_len hownX
          have hnx2 := own_len ownX'
          have hny := own_len hownY
          have hny2 := own_len ownY'
          have hxy : Hid (Y.length = X.length) := by rw [HYL.out]; rfl
          obtain rfl : ny = m2 := by have := hxy.out; omega
          have hbx := hb14.trans (hbr2.mono (by have := hb14.size; omega))
          have SX := hide (Strs.of_own ownX')
          have SY := hide (Strs.of_own ownY')
          have hnxm : nx ≤ maxLen := by have := hxy.out; unfold maxLen; omega
          have hnym : ny ≤ maxLen := by unfold maxLen; omega
          clear hnx hnx2 hny hny2 hownX hownY ownX' ownY' hown hblk hnb hnb2
          have hlen' := hlen.out
          go_wp2_with fail
          refine (l_same_t Ax nx cx Ay ny cy X _ SX.out SY.out hnxm hnym).mono ?_
          rintro e w6 ⟨rfl, q6, rfl⟩
          go_wp2_with fail
          go_ret
          exact ⟨rfl, below_drewN hbx q6⟩
end Go.Proofs.Ytnipoaohkoancaa
