/- spec.NamesPut, spec.NamesDrop. -/
import Derived.Test.YtohodhogbdcdmabPut
import Derived.Test.YtohodhogbdcdmabNs3
namespace Go.Proofs.Ytohodhogbdcdmab
open Go.RowKit

/-- The loop of spec.NamesPut behind k rounds. -/
def PutAt (W : World) (L : List ByteArray) (s : ByteArray) (k : Nat) (d : Bool) (v : Value) (m : Nat) (wr : World) : Prop :=
  ∃ M : List ByteArray, M = accF L s k ∧ d = doneF L s k ∧ wr.ownsRow W.heap.size 9 1 v m (M.map Value.string) ∧ m ≤ k + 1 ∧ Below W.heap.size W wr
theorem own_len {w : World} {base : Nat} {e : TypeId} {v : Value} {m : Nat} {L : List ByteArray} (h : w.ownsRow base e 1 v m (L.map Value.string)) : L.length = m := by
  have := h.1; rw [List.length_map, Nat.mul_one] at this; exact this

set_option maxHeartbeats 3000000 in
set_option maxRecDepth 100000 in
set_option maxRecDepth 100000 in
theorem s_NamesPut (A : Option Addr) (n c : Nat) (L : List ByteArray) (s : ByteArray) (w : World) (hL : Strs w w.heap.size A n L) (hS : Small L) (_hnc : n ≤ c) (hn : n ≤ maxLen) (hs : s.size ≤ maxLen) :
    Calls Try.prog 44 #[.slice A n c, .string s] w fun e w' => Own2 w (putM L s) e w' := by
  obtain ⟨i0, hi0, hz0, hz1, hz2⟩ := info_parts str_info
  have hU := Try.underlying29
  have hL := hide hL
  have hS := hide hS
  have hn := hide hn
  go_enter Try.func44, Try.ntmps44
  go_wp2_with fail
  refine (s_NamesValid A n c L _ hL.out hS.out hn.out).mono ?_
  rintro e w1 ⟨rfl, q, rfl⟩
  cases h1 : nsB L
  · have H := hide (putM_1 (s := s) h1)
    go_wp2_with fail
    go_ret2
    exact ⟨_, by rw [H.out]; rfl, by rw [H.out]; exact ⟨_, _, _, rfl, World.ownsRow_lit (w.drewN q) #[] 0 (Nat.le_refl _) (Nat.zero_le _) rfl⟩, (below_drewN' _ w q).alloc (Nat.le_refl _) _⟩
  have hlen := nsB_le h1
  have hn10 : n ≤ 10 := by have := hL.out.1; omega
  go_wp2_with fail
  refine (s_NameValid s _ hs).mono ?_
  rintro e w' ⟨rfl, rfl⟩
  cases h2 : nvB s
  · have H := hide (putM_2 (L := L) h2)
    go_wp2_with fail
    go_ret2
    exact ⟨_, by rw [H.out]; rfl, by rw [H.out]; exact ⟨_, _, _, rfl, World.ownsRow_lit (w.drewN q) #[] 0 (Nat.le_refl _) (Nat.zero_le _) rfl⟩, (below_drewN' _ w q).alloc (Nat.le_refl _) _⟩
  have h1 := hide h1
  have h2 := hide h2
  go_wp2_with fail
  refine (s_at A n c L s _ (hL.out.below ((below_drewN' _ w q).alloc (Nat.le_refl _) _) |>.more (by simp)) hn.out).mono ?_
  rintro e w' ⟨rfl, rfl⟩
  have hd2 : decide (0 ≤ atI L s) = memB L s := by unfold atI; cases memB L s <;> simp
  go_wp2_with fail
  clear hd2
  go_loopw [6, 7, 8] (fun v d i wr => ∃ (k m : Nat) (b : Bool), k ≤ n ∧ i = .int .i64 k ∧ d = .bool b ∧ PutAt w L s k b v m wr) (fun _ _ i _ => n - (intOf i).toNat)
  case atStart =>
    exact ⟨0, 0, _, Nat.zero_le _, rfl, rfl, [], (acc_start L s).1.symm, (acc_start L s).2.symm, World.ownsRow_lit (w.drewN q) #[] 0 (Nat.le_refl _) (Nat.zero_le _) rfl, by omega, (below_drewN' _ w q).alloc (Nat.le_refl _) _⟩
  case round =>
    obtain ⟨k, m, b, hk, rfl, rfl, M, hM, hb, hown, hm, hbel⟩ := hrel
    have HM := hide hM
    have HB := hide hb
    clear hM hb
    have hgt := hbel.size
    have b1 : m + 1 ≤ maxLen := by unfold maxLen; omega
    have b2 : (m + 1) * 16 ≤ 140737488355328 := by omega
    have b3 : m + 1 + 1 ≤ maxLen := by unfold maxLen; omega
    have b4 : (m + 1 + 1) * 16 ≤ 140737488355328 := by omega
    by_cases hlt : k < n
    · obtain ⟨g, off, rfl, hbl, hc⟩ := hL.out.2 (by omega)
      obtain ⟨t, ht⟩ : ∃ t, L[k]? = some t := ⟨L[k]'(by have := hL.out.1; omega), List.getElem?_eq_getElem _⟩
      have hck : wr.cell? ⟨g, off + k, none⟩ = some (.string t) := (hbel.cell hbl).trans (hc k t ht)
      clear hc
      cases b
      · cases hts : blt t s
        · obtain ⟨e1, e2, hne⟩ := acc_at HB.out.symm ht hts
          have E1 := hide e1
          have E2 := hide e2
          clear e1 e2
          have hne' := beq_of_ne hne
          have hts' : Op.bytesLess t.toList s.toList = false := hts
          clear ht hne hts
          go_wp2_with (first
            | (at_builtin
               refine wpList_append_rd _ rfl (.tmp 39) (.tmp 41) _ rfl w.heap.size 9 i0 _ 1 16 hU hi0 hz0 hz1 hz2 rfl (by omega) u6 m (M.map Value.string) rfl (hown.alloc _) (wr.heap.size + 1) (some ⟨wr.heap.size, 0, none⟩) 1 _ [Value.string s] rfl (Rd.one _ _ _) (one_strs [s]) b1 b2 (by simp; omega) ?_
               intro v3 w3 own3 gr3 at3
               have hb3 : Below w.heap.size w w3 := Below.own (hbel.alloc hbel.size _) gr3 (hown.alloc _) (Nat.le_refl _) (by simp; omega)
               have hck3 : w3.cell? ⟨g, off + k, none⟩ = some (.string t) := ((hb3.cell hbl).trans (hbel.cell hbl).symm).trans hck
               clear gr3 at3)
            | (at_builtin
               refine wpList_append_rd _ rfl (.tmp 43) (.tmp 48) _ rfl w.heap.size 9 i0 _ 1 16 hU hi0 hz0 hz1 hz2 rfl (by omega) v3 (m + 1) (M.map Value.string ++ [Value.string s]) rfl (own3.alloc _) (w3.heap.size + 1) (some ⟨w3.heap.size, 0, none⟩) 1 _ [Value.string t] rfl (Rd.one _ _ _) (one_strs [t]) b3 b4 (by simp; have := hb3.size; omega) ?_
               intro v4 w4 own4 gr4 at4
               have hb4 : Below w.heap.size w w4 := Below.own (hb3.alloc hb3.size _) gr4 (own3.alloc _) (Nat.le_refl _) (by simp; have := hb3.size; omega)
               clear gr4 at4))
          go_roundw
          case rel => exact ⟨k + 1, m + 1 + 1, true, by omega, by go_num, rfl, accF L s (k + 1), rfl, E2.out.symm, by rw [E1.out, ← HM.out]; simpa using own4, by have h1 := acc_len L s (k + 1); rw [E1.out, ← HM.out] at h1; have h2 := own_len hown; simp at h1; omega, hb4⟩
          case measure => simp [intOf]; omega
        · obtain ⟨e1, e2⟩ := acc_lo (nsB_asc h1.out) HB.out.symm ht hts
          have E1 := hide e1
          have E2 := hide e2
          clear e1 e2
          have hts' : Op.bytesLess t.toList s.toList = true := hts
          clear ht hts
          go_wp2_with (
              (at_builtin
               refine wpList_append_rd _ rfl (.tmp 43) (.tmp 48) _ rfl w.heap.size 9 i0 _ 1 16 hU hi0 hz0 hz1 hz2 rfl (by omega) u6 m (M.map Value.string) rfl (hown.alloc _) (wr.heap.size + 1) (some ⟨wr.heap.size, 0, none⟩) 1 _ [Value.string t] rfl (Rd.one _ _ _) (one_strs [t]) b1 b2 (by simp; omega) ?_
               intro v4 w4 own4 gr4 at4
               have hb4 : Below w.heap.size w w4 := Below.own (hbel.alloc hbel.size _) gr4 (hown.alloc _) (Nat.le_refl _) (by simp; omega)
               clear gr4 at4))
          go_roundw
          case rel => exact ⟨k + 1, m + 1, false, by omega, by go_num, rfl, accF L s (k + 1), rfl, E2.out.symm, by rw [E1.out, ← HM.out]; simpa using own4, by omega, hb4⟩
          case measure => simp [intOf]; omega
      · obtain ⟨e1, e2⟩ := acc_done HB.out.symm ht
        have E1 := hide e1
        have E2 := hide e2
        clear e1 e2 ht
        go_wp2_with (
            (at_builtin
             refine wpList_append_rd _ rfl (.tmp 43) (.tmp 48) _ rfl w.heap.size 9 i0 _ 1 16 hU hi0 hz0 hz1 hz2 rfl (by omega) u6 m (M.map Value.string) rfl (hown.alloc _) (wr.heap.size + 1) (some ⟨wr.heap.size, 0, none⟩) 1 _ [Value.string t] rfl (Rd.one _ _ _) (one_strs [t]) b1 b2 (by simp; omega) ?_
             intro v4 w4 own4 gr4 at4
             have hb4 : Below w.heap.size w w4 := Below.own (hbel.alloc hbel.size _) gr4 (hown.alloc _) (Nat.le_refl _) (by simp; omega)
             clear gr4 at4))
        go_roundw
        case rel => exact ⟨k + 1, m + 1, true, by omega, by go_num, rfl, accF L s (k + 1), rfl, E2.out.symm, by rw [E1.out, ← HM.out]; simpa using own4, by omega, hb4⟩
        case measure => simp [intOf]; omega
    · have hkl : Hid (k = L.length) := by have := hL.out.1; show k = _; omega
      have hpl := put_len L s
      have hn11 : (put L s).length ≤ 11 := by omega
      cases b
      · have hput : Hid (M ++ [s] = put L s) := by rw [HM.out, hkl.out]; exact acc_end_f (by rw [← hkl.out]; exact HB.out.symm)
        go_wp2_with (
            (at_builtin
             refine wpList_append_rd _ rfl (.tmp 52) (.tmp 54) _ rfl w.heap.size 9 i0 _ 1 16 hU hi0 hz0 hz1 hz2 rfl (by omega) u6 m (M.map Value.string) rfl (hown.alloc _) (wr.heap.size + 1) (some ⟨wr.heap.size, 0, none⟩) 1 _ [Value.string s] rfl (Rd.one _ _ _) (one_strs [s]) b1 b2 (by simp; omega) ?_
             intro v4 w4 own4 gr4 at4
             have hb4 : Below w.heap.size w w4 := Below.own (hbel.alloc hbel.size _) gr4 (hown.alloc _) (Nat.le_refl _) (by simp; omega)
             obtain ⟨A1, n1, c1, rfl, own5⟩ := OwnL.mk (L := put L s) own4 (by rw [← hput.out, List.map_append]; rfl)
             clear gr4 at4 own4))
        have hst := Strs.of_own own5
        have hn1 : n1 ≤ maxLen := by have := hst.1; unfold maxLen; omega
        have HST := hide hst
        clear hst
        refine (s_NamesValid A1 n1 c1 (put L s) _ HST.out (put_small hS.out hs) hn1).mono ?_
        rintro e w5 ⟨rfl, q5, rfl⟩
        cases h3 : nsB (put L s)
        · have H := hide (putM_3 h3)
          go_wp2_with fail
          go_ret2
          exact ⟨_, by rw [H.out]; rfl, by rw [H.out]; exact ⟨_, _, _, rfl, World.ownsRow_lit (w4.drewN q5) #[] 0 hb4.size (Nat.zero_le _) rfl⟩, (below_drewN hb4 q5).alloc hb4.size _⟩
        · have H := hide (putM_t h1.out h2.out h3)
          go_wp2_with fail
          go_ret2
          exact ⟨_, by rw [H.out]; rfl, by rw [H.out]; exact ⟨_, _, _, rfl, own5⟩, below_drewN hb4 q5⟩
      · have hput : Hid (M = put L s) := by rw [HM.out, hkl.out]; exact acc_end_t (by rw [← hkl.out]; exact HB.out.symm)
        obtain ⟨A1, n1, c1, rfl, own5⟩ := OwnL.mk (L := put L s) hown (by rw [← hput.out])
        have hst := Strs.of_own own5
        have hn1 : n1 ≤ maxLen := by have := hst.1; unfold maxLen; omega
        have HST := hide hst
        clear hst
        go_wp2_with fail
        refine (s_NamesValid A1 n1 c1 (put L s) _ HST.out (put_small hS.out hs) hn1).mono ?_
        rintro e w5 ⟨rfl, q5, rfl⟩
        cases h3 : nsB (put L s)
        · have H := hide (putM_3 h3)
          go_wp2_with fail
          go_ret2
          exact ⟨_, by rw [H.out]; rfl, by rw [H.out]; exact ⟨_, _, _, rfl, World.ownsRow_lit (wr.drewN q5) #[] 0 hbel.size (Nat.zero_le _) rfl⟩, (below_drewN hbel q5).alloc hbel.size _⟩
        · have H := hide (putM_t h1.out h2.out h3)
          go_wp2_with fail
          go_ret2
          exact ⟨_, by rw [H.out]; rfl, by rw [H.out]; exact ⟨_, _, _, rfl, own5⟩, below_drewN hbel q5⟩

theorem atI_asc {L : List ByteArray} {s : ByteArray} (ha : Asc L) (hm : memB L s = true) : atI L s = (pos L s : Int) :=
  atI_of ((mem_pos ha).1 (memB_iff.1 hm)) (fun j hj h => by have := pos_lo hj h; rw [blt_irrefl] at this; cases this)

set_option maxHeartbeats 2000000 in
set_option maxRecDepth 100000 in
theorem s_NamesDrop (A : Option Addr) (n c : Nat) (L : List ByteArray) (s : ByteArray) (w : World) (hL : Strs w w.heap.size A n L) (hS : Small L) (hnc : n ≤ c) (hn : n ≤ maxLen) :
    Calls Try.prog 46 #[.slice A n c, .string s] w fun e w' => Own2 w (dropM L s) e w' := by
  obtain ⟨i0, hi0, hz0, hz1, hz2⟩ := info_parts str_info
  have hU := Try.underlying29
  have HL := hide hL
  have HS := hide hS
  have HN := hide hn
  clear hL hS hn
  go_enter Try.func46, Try.ntmps46
  go_wp2_with fail
  refine (s_at A n c L s _ HL.out HN.out).mono ?_
  rintro e w' ⟨rfl, rfl⟩
  go_wp2_with fail
  refine (s_NamesValid A n c L _ HL.out HS.out HN.out).mono ?_
  rintro e w1 ⟨rfl, q, rfl⟩
  cases h1 : nsB L
  · have H := hide (dropM_1 (s := s) h1)
    clear h1
    go_wp2_with fail
    go_ret2
    exact ⟨_, by rw [H.out]; rfl, by rw [H.out]; exact ⟨_, _, _, rfl, World.ownsRow_lit (w.drewN q) #[] 0 (Nat.le_refl _) (Nat.zero_le _) rfl⟩, (below_drewN' _ w q).alloc (Nat.le_refl _) _⟩
  have hlen := nsB_le h1
  have hn10 : n ≤ 10 := by have := HL.out.1; omega
  cases h2 : memB L s
  · have H := hide (dropM_2 h2)
    have hat : atI L s < 0 := by rw [atI_no (fun h => by rw [memB_t h] at h2; cases h2)]; omega
    clear h1 h2
    go_wp2_with fail
    go_ret2
    exact ⟨_, by rw [H.out]; rfl, by rw [H.out]; exact ⟨_, _, _, rfl, World.ownsRow_lit (w.drewN q) #[] 0 (Nat.le_refl _) (Nat.zero_le _) rfl⟩, (below_drewN' _ w q).alloc (Nat.le_refl _) _⟩
  · have H := hide (dropM_t h1 h2)
    have hlt : pos L s < n := by
      have h := (mem_pos (nsB_asc h1)).1 (memB_iff.1 h2)
      have := (List.getElem?_eq_some_iff.1 h).1
      have := HL.out.1
      omega
    rw [atI_asc (nsB_asc h1) h2]
    clear h1 h2
    generalize pos L s = k at H hlt ⊢
    have b3 : 0 + k ≤ maxLen := by unfold maxLen; omega
    have b4 : (0 + k) * 16 ≤ 140737488355328 := by omega
    have b9 : 0 + k + (n - (k + 1)) ≤ maxLen := by unfold maxLen; omega
    have b10 : (0 + k + (n - (k + 1))) * 16 ≤ 140737488355328 := by omega
    obtain ⟨E, hE, _, hE2⟩ := slice_to hU hi0 hz1 A n c k k rfl (by omega) hnc
    obtain ⟨D, hD, _, hD2⟩ := slice_from hU hi0 hz1 A n c (k + 1) ((k : Int) + 1) (by omega) (by omega) hnc
    have HE2 := hide (hE2 _ _ _ HL.out)
    have HD2 := hide (hD2 _ _ _ hz1 HL.out)
    clear hE2 hD2
    have hb1 : Below w.heap.size w ((w.drewN q).alloc (.cells #[] 9)) := (below_drewN' _ w q).alloc (Nat.le_refl _) _
    have own1 : ((w.drewN q).alloc (.cells #[] 9)).ownsRow w.heap.size 9 1 (.slice (some ⟨w.heap.size, 0, none⟩) 0 0) 0 [] := World.ownsRow_lit (w.drewN q) #[] 0 (Nat.le_refl _) (Nat.zero_le _) rfl
    go_wp2_with (first
      | (at_builtin
         refine wpList_append_rd _ rfl (.tmp 19) (.tmp 22) _ rfl w.heap.size 9 i0 _ 1 16 hU hi0 hz0 hz1 hz2 rfl (by omega) _ 0 [] rfl own1 w.heap.size E k _ ((L.take k).map Value.string) rfl (Rd.of_strs (HE2.out.below hb1)) (one_strs _) b3 b4 hb1.size ?_
         intro v2 w2 own2 gr2 at2
         have hb2 : Below w.heap.size w w2 := Below.own hb1 gr2 own1 (Nat.le_refl _) hb1.size
         clear gr2 at2)
      | (at_builtin
         refine wpList_append_rd _ rfl (.tmp 24) (.tmp 28) _ rfl w.heap.size 9 i0 _ 1 16 hU hi0 hz0 hz1 hz2 rfl (by omega) _ (0 + k) ([] ++ (L.take k).map Value.string) rfl own2 w.heap.size D (n - (k + 1)) _ ((L.drop (k + 1)).map Value.string) rfl (Rd.of_strs (HD2.out.below hb2)) (one_strs _) b9 b10 hb2.size ?_
         intro v4 w4 own4 gr4 at4
         have hb4 : Below w.heap.size w w4 := Below.own hb2 gr4 own2 (Nat.le_refl _) hb2.size
         clear gr4 at4))
    go_ret2
    refine ⟨v4, by rw [H.out]; rfl, ?_, hb4⟩
    rw [H.out]
    exact OwnL.mk own4 (by rw [List.nil_append, ← List.map_append]; rfl)
end Go.Proofs.Ytohodhogbdcdmab
