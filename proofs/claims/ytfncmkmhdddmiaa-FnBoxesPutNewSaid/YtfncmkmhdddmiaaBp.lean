/- spec: l4Put, BoxPut, BoxesGet. -/
import Derived.Test.YtfncmkmhdddmiaaBv
import Derived.Deep.DeepMust
set_option linter.unusedVariables false
set_option linter.unusedSimpArgs false
namespace Go.Proofs.Ytfncmkmhdddmiaa
open Go.RowKit

/-- 'x[:k]' of whatever slice, its value. -/
theorem slice_to_run {P : Program} {t e : TypeId} {i : TypeInfo} (ht : P.underlying t = some (.slice e)) (hi : P.info? e = some i) (A : Option Addr) (n c k : Nat) (z : Int) (hz : z = (k : Int)) (hk : k ≤ n) (hnc : n ≤ c) (W : World) :
    (Instr.slice t (.slice A n c) none (some (.int .i64 z)) none).run P W = .ok (.slice A k c) W := by
  subst hz
  have hE : (if c = 0 then A else A.map (·.add (0 * i.size))) = A := by
    split
    · rfl
    · cases A with
      | none => rfl
      | some a => simp [Addr.add]
  have h1 := run_slice_h (P := P) W t A n c (by rw [ht, elem_of_underlying ht]) .i64 (k : Int) (by omega) (by omega)
  rw [h1, elem_of_underlying ht, size_run hi]
  simp only [Result.andThen, sliced, hE, Int.toNat_natCast, Nat.sub_zero]
theorem ints_snoc (L : List Int) (i : Int) : L.map (Value.int .i64) ++ [Value.int .i64 i] = (L ++ [i]).map (Value.int .i64) := by rw [List.map_append]; rfl
theorem ints_take {w : World} {base n c m : Nat} {A : Option Addr} {L : List Int} (h : w.ownsRow base 3 1 (.slice A n c) n (L.map (Value.int .i64))) (hm : m ≤ n) : w.ownsRow base 3 1 (.slice A m c) m ((L.take m).map (Value.int .i64)) := by
  have h1 := own_take h hm
  rw [Nat.mul_one, ← List.map_take] at h1
  exact h1

set_option maxHeartbeats 2000000 in
set_option maxRecDepth 100000 in
theorem s_put (A : Option Addr) (n c : Nat) (L : List Int) (id : Int) (w : World) (hX : Ints w w.heap.size A n L) (hn : n ≤ 1000) :
    Calls Try.prog 54 #[.slice A n c, .int .i64 id] w fun e w' => Own1I w (bput L id) e w' := by
  obtain ⟨i1, hi1, hy0, hy1, hy2⟩ := info_parts' int_info
  have hU := Try.underlying23
  have hl := hide hX.1
  have HX := hide hX
  clear hX
  have H0 : Hid (Below w.heap.size w (w.alloc (.cells #[] 3))) := (Below.refl _ _).alloc (Nat.le_refl _) _
  have Own0 : Hid ((w.alloc (.cells #[] 3)).ownsRow w.heap.size 3 1 (.slice (some ⟨w.heap.size, 0, none⟩) 0 0) 0 (([] : List Int).map (Value.int .i64))) := World.ownsRow_lit w #[] 0 (Nat.le_refl _) (Nat.zero_le _) rfl
  go_enter Try.func54, Try.ntmps54
  go_wp2_with fail
  go_loopw [5, 6, 7] (fun u d i wr => ∃ (k m : Nat) (A4 : Option Addr) (c4 : Nat) (o : List Int) (b : Bool), k ≤ n ∧ i = .int .i64 k ∧ u = .slice A4 m c4 ∧ d = .bool b ∧ Hid (pst id L k = (o, b)) ∧ Hid (wr.ownsRow w.heap.size 3 1 (.slice A4 m c4) m (o.map (Value.int .i64))) ∧ m ≤ 2 * k ∧ Hid (Below w.heap.size w wr)) (fun _ _ i _ => n - (intOf i).toNat)
  case atStart => exact ⟨0, 0, _, _, [], false, Nat.zero_le _, rfl, rfl, rfl, rfl, Own0.out, by omega, H0.out⟩
  case round =>
    obtain ⟨k, m, A4, c4, o, b, hk, rfl, rfl, rfl, hp, hown, hm, hbr⟩ := hrel
    have hsz := hbr.out.size
    by_cases hlt : k < n
    · obtain ⟨a, ha⟩ : ∃ a, L[k]? = some a := ⟨L[k]'(by have := hl.out; omega), List.getElem?_eq_getElem _⟩
      obtain ⟨g, off, rfl, hg, hcw⟩ := HX.out.at' ha
      have Hcw := hide hcw
      have hc0 : wr.cell? ⟨g, off + k, none⟩ = some (.int .i64 a) := (hbr.out.cell (p := ⟨g, off + k, none⟩) hg).trans hcw
      have hS := pst_succ (id := id) ha
      rw [hp.out] at hS
      clear hcw ha
      cases b
      · by_cases h1 : a ≤ id
        · by_cases h2 : a = id
          · subst h2
            have HS : Hid (pst a L (k + 1) = (o ++ [a], true)) := hS.trans (by simp [pstep])
            clear hS h1
            go_wp2_with (
              (at_builtin
               skip; (refine wpList_append_rd _ rfl (.tmp 25) (.tmp 27) _ rfl w.heap.size 3 i1 _ 1 8 hU hi1 hy0 hy1 hy2 rfl (by omega) (.slice A4 m c4) m (o.map (Value.int .i64)) rfl (hown.out.alloc _) (wr.heap.size + 1) (some ⟨wr.heap.size, 0, none⟩) 1 _ [Value.int .i64 a] rfl (Rd.one _ _ _) (one_ints [a]) (by unfold maxLen; omega) (by omega) (by simp; omega) ?_)
               intro v7 w7 own7 gr7 at7
               skip; (have Hb7 : Hid (Below w.heap.size w w7) := Below.own (hbr.out.alloc (by omega) _) gr7 (hown.out.alloc _) (Nat.le_refl _) (by simp; omega))
               skip; (have hs7 := Hb7.out.size)
               skip; (obtain ⟨A7, c7, e7⟩ := own_slice own7)
               skip; (subst e7)
               skip; (rw [ints_snoc o a] at own7)
               skip; (have Own7 := hide own7)
               (have hc7 : w7.cell? ⟨g, off + k, none⟩ = some (.int .i64 a) := (Hb7.out.cell (p := ⟨g, off + k, none⟩) hg).trans Hcw.out)
               clear gr7 at7 own7)
              )
            go_roundw
            case rel => exact ⟨k + 1, m + 1, A7, c7, _, true, by omega, by go_num, rfl, rfl, HS.out, Own7.out, by omega, Hb7.out⟩
            case measure => simp [intOf]; omega
          · have HS : Hid (pst id L (k + 1) = (o ++ [id] ++ [a], true)) := hS.trans (by simp [pstep, h1, h2])
            clear hS
            go_wp2_with (first
              |
                (at_builtin
                 skip; (refine wpList_append_rd _ rfl (.tmp 25) (.tmp 27) _ rfl w.heap.size 3 i1 _ 1 8 hU hi1 hy0 hy1 hy2 rfl (by omega) (.slice A4 m c4) m (o.map (Value.int .i64)) rfl (hown.out.alloc _) (wr.heap.size + 1) (some ⟨wr.heap.size, 0, none⟩) 1 _ [Value.int .i64 id] rfl (Rd.one _ _ _) (one_ints [id]) (by unfold maxLen; omega) (by omega) (by simp; omega) ?_)
                 intro v7 w7 own7 gr7 at7
                 skip; (have Hb7 : Hid (Below w.heap.size w w7) := Below.own (hbr.out.alloc (by omega) _) gr7 (hown.out.alloc _) (Nat.le_refl _) (by simp; omega))
                 skip; (have hs7 := Hb7.out.size)
                 skip; (obtain ⟨A7, c7, e7⟩ := own_slice own7)
                 skip; (subst e7)
                 skip; (rw [ints_snoc o id] at own7)
                 skip; (have Own7 := hide own7)
                 (have hc7 : w7.cell? ⟨g, off + k, none⟩ = some (.int .i64 a) := (Hb7.out.cell (p := ⟨g, off + k, none⟩) hg).trans Hcw.out)
                 clear gr7 at7 own7)
              |
                (at_builtin
                 go_must (refine wpList_append_rd _ rfl (.tmp 35) (.tmp 40) _ rfl w.heap.size 3 i1 _ 1 8 hU hi1 hy0 hy1 hy2 rfl (by omega) (.slice A7 (m + 1) c7) (m + 1) ((o ++ [id]).map (Value.int .i64)) rfl (Own7.out.alloc _) (w7.heap.size + 1) (some ⟨w7.heap.size, 0, none⟩) 1 _ [Value.int .i64 a] rfl (Rd.one _ _ _) (one_ints [a]) (by unfold maxLen; omega) (by omega) (by simp; omega) ?_)
                 intro v8 w8 own8 gr8 at8
                 go_must (have Hb8 : Hid (Below w.heap.size w w8) := Below.own (Hb7.out.alloc (by omega) _) gr8 (Own7.out.alloc _) (Nat.le_refl _) (by simp; omega))
                 go_must (have hs8 := Hb8.out.size)
                 go_must (obtain ⟨A8, c8, e8⟩ := own_slice own8)
                 go_must (subst e8)
                 go_must (rw [ints_snoc (o ++ [id]) a] at own8)
                 go_must (have Own8 := hide own8)
                 skip
                 clear gr8 at8 own8)
              )
            go_roundw
            case rel => exact ⟨k + 1, m + 2, A8, c8, _, true, by omega, by go_num, rfl, rfl, HS.out, Own8.out, by omega, Hb8.out⟩
            case measure => simp [intOf]; omega
        · have h2 : a ≠ id := by omega
          have HS : Hid (pst id L (k + 1) = (o ++ [a], false)) := hS.trans (by simp [pstep, h1, h2])
          clear hS
          go_wp2_with (
            (at_builtin
             skip; (refine wpList_append_rd _ rfl (.tmp 35) (.tmp 40) _ rfl w.heap.size 3 i1 _ 1 8 hU hi1 hy0 hy1 hy2 rfl (by omega) (.slice A4 m c4) m (o.map (Value.int .i64)) rfl (hown.out.alloc _) (wr.heap.size + 1) (some ⟨wr.heap.size, 0, none⟩) 1 _ [Value.int .i64 a] rfl (Rd.one _ _ _) (one_ints [a]) (by unfold maxLen; omega) (by omega) (by simp; omega) ?_)
             intro v7 w7 own7 gr7 at7
             skip; (have Hb7 : Hid (Below w.heap.size w w7) := Below.own (hbr.out.alloc (by omega) _) gr7 (hown.out.alloc _) (Nat.le_refl _) (by simp; omega))
             skip; (have hs7 := Hb7.out.size)
             skip; (obtain ⟨A7, c7, e7⟩ := own_slice own7)
             skip; (subst e7)
             skip; (rw [ints_snoc o a] at own7)
             skip; (have Own7 := hide own7)
             skip
             clear gr7 at7 own7)
            )
          go_roundw
          case rel => exact ⟨k + 1, m + 1, A7, c7, _, false, by omega, by go_num, rfl, rfl, HS.out, Own7.out, by omega, Hb7.out⟩
          case measure => simp [intOf]; omega
      · by_cases h2 : a = id
        · subst h2
          have HS : Hid (pst a L (k + 1) = (o, true)) := hS.trans (by simp [pstep])
          clear hS
          go_wp2_with fail
          go_roundw
          case rel => exact ⟨k + 1, m, A4, c4, _, true, by omega, by go_num, rfl, rfl, HS.out, hown.out, by omega, hbr.out⟩
          case measure => simp [intOf]; omega
        · have HS : Hid (pst id L (k + 1) = (o ++ [a], true)) := hS.trans (by simp [pstep, h2])
          clear hS
          go_wp2_with (
            (at_builtin
             skip; (refine wpList_append_rd _ rfl (.tmp 35) (.tmp 40) _ rfl w.heap.size 3 i1 _ 1 8 hU hi1 hy0 hy1 hy2 rfl (by omega) (.slice A4 m c4) m (o.map (Value.int .i64)) rfl (hown.out.alloc _) (wr.heap.size + 1) (some ⟨wr.heap.size, 0, none⟩) 1 _ [Value.int .i64 a] rfl (Rd.one _ _ _) (one_ints [a]) (by unfold maxLen; omega) (by omega) (by simp; omega) ?_)
             intro v7 w7 own7 gr7 at7
             skip; (have Hb7 : Hid (Below w.heap.size w w7) := Below.own (hbr.out.alloc (by omega) _) gr7 (hown.out.alloc _) (Nat.le_refl _) (by simp; omega))
             skip; (have hs7 := Hb7.out.size)
             skip; (obtain ⟨A7, c7, e7⟩ := own_slice own7)
             skip; (subst e7)
             skip; (rw [ints_snoc o a] at own7)
             skip; (have Own7 := hide own7)
             skip
             clear gr7 at7 own7)
            )
          go_roundw
          case rel => exact ⟨k + 1, m + 1, A7, c7, _, true, by omega, by go_num, rfl, rfl, HS.out, Own7.out, by omega, Hb7.out⟩
          case measure => simp [intOf]; omega
    · have hkn : k = L.length := by have := hl.out; omega
      have hcap := (own_cap hown.out).1
      cases b
      · have HB : Hid (bput L id = (o ++ [id]).take 6) := by show _ = _; unfold bput; rw [← hkn, hp.out]; simp
        have hlo : (o ++ [id]).length = m + 1 := by have h := hown.out.1; rw [List.length_map] at h; simp; omega
        by_cases h6 : 6 < m + 1
        · have h6i : (6 : Int) < (m : Int) + 1 := by omega
          go_wp2_with (
            (at_builtin
             skip; (refine wpList_append_rd _ rfl (.tmp 44) (.tmp 46) _ rfl w.heap.size 3 i1 _ 1 8 hU hi1 hy0 hy1 hy2 rfl (by omega) (.slice A4 m c4) m (o.map (Value.int .i64)) rfl (hown.out.alloc _) (wr.heap.size + 1) (some ⟨wr.heap.size, 0, none⟩) 1 _ [Value.int .i64 id] rfl (Rd.one _ _ _) (one_ints [id]) (by unfold maxLen; omega) (by omega) (by simp; omega) ?_)
             intro v7 w7 own7 gr7 at7
             skip; (have Hb7 : Hid (Below w.heap.size w w7) := Below.own (hbr.out.alloc (by omega) _) gr7 (hown.out.alloc _) (Nat.le_refl _) (by simp; omega))
             skip; (have hs7 := Hb7.out.size)
             skip; (obtain ⟨A7, c7, e7⟩ := own_slice own7)
             skip; (subst e7)
             skip; (rw [ints_snoc o id] at own7)
             skip; (have Own7 := hide own7)
             (have hcp7 := (own_cap own7).1)
             clear gr7 at7 own7)
            )
          go_ret
          have h := Own7.out
          exact ⟨_, rfl, ⟨_, _, _, rfl, by rw [HB.out]; exact ints_take h (by omega)⟩, Hb7.out⟩
        · have h6i : (m : Int) + 1 ≤ 6 := by omega
          go_wp2_with (
            (at_builtin
             skip; (refine wpList_append_rd _ rfl (.tmp 44) (.tmp 46) _ rfl w.heap.size 3 i1 _ 1 8 hU hi1 hy0 hy1 hy2 rfl (by omega) (.slice A4 m c4) m (o.map (Value.int .i64)) rfl (hown.out.alloc _) (wr.heap.size + 1) (some ⟨wr.heap.size, 0, none⟩) 1 _ [Value.int .i64 id] rfl (Rd.one _ _ _) (one_ints [id]) (by unfold maxLen; omega) (by omega) (by simp; omega) ?_)
             intro v7 w7 own7 gr7 at7
             skip; (have Hb7 : Hid (Below w.heap.size w w7) := Below.own (hbr.out.alloc (by omega) _) gr7 (hown.out.alloc _) (Nat.le_refl _) (by simp; omega))
             skip; (have hs7 := Hb7.out.size)
             skip; (obtain ⟨A7, c7, e7⟩ := own_slice own7)
             skip; (subst e7)
             skip; (rw [ints_snoc o id] at own7)
             skip; (have Own7 := hide own7)
             (have hcp7 := (own_cap own7).1)
             clear gr7 at7 own7)
            )
          go_ret
          have h := Own7.out
          exact ⟨_, rfl, ⟨_, _, _, rfl, by rw [HB.out, List.take_of_length_le (by omega)]; exact h⟩, Hb7.out⟩
      · have HB : Hid (bput L id = o.take 6) := by show _ = _; unfold bput; rw [← hkn, hp.out]; simp
        have hlo : o.length = m := by have h := hown.out.1; rw [List.length_map] at h; omega
        by_cases h6 : 6 < m
        · have h6i : (6 : Int) < (m : Int) := by omega
          go_wp2_with fail
          go_ret
          exact ⟨_, rfl, ⟨_, _, _, rfl, by rw [HB.out]; exact ints_take hown.out (by omega)⟩, hbr.out⟩
        · have h6i : (m : Int) ≤ 6 := by omega
          go_wp2_with fail
          go_ret
          exact ⟨_, rfl, ⟨_, _, _, rfl, by rw [HB.out, List.take_of_length_le (by omega)]; exact hown.out⟩, hbr.out⟩

set_option maxHeartbeats 1000000 in
set_option maxRecDepth 100000 in
theorem s_BoxPut (A : Option Addr) (n c : Nat) (L : List Int) (id : Int) (w : World) (hX : Ints w w.heap.size A n L) (hn : n ≤ maxLen) :
    Calls Try.prog 21 #[.slice A n c, .int .i64 id] w fun e w' => Own2I w (bPutM L id) e w' := by
  have hl := hide hX.1
  have HX := hide hX
  have HN := hide hn
  clear hX hn
  go_enter Try.func21, Try.ntmps21
  go_wp2_with fail
  refine (s_ids A n c L _ HX.out HN.out).mono ?_
  rintro e w1 ⟨rfl, hb1⟩
  have Hb1 := hide hb1
  have HX1 := hide (HX.out.on hb1)
  clear hb1
  cases h1 : idsB L
  · have H : Hid (bPutM L id = none) := bPutM_1 h1
    clear h1
    go_wp2_with fail
    go_ret2
    exact ⟨_, by rw [H.out]; rfl, by rw [H.out]; exact ⟨_, 0, 0, rfl, World.ownsRow_lit w1 #[] 0 Hb1.out.size (Nat.zero_le _) rfl⟩, Hb1.out.alloc Hb1.out.size _⟩
  have hn6 : n ≤ 6 := by have h := idsB_6 h1; have := hl.out; omega
  go_wp2_with fail
  refine (s_in id 1 999 _).mono ?_
  rintro e w' ⟨rfl, rfl⟩
  cases h2 : inB id 1 999
  · have H : Hid (bPutM L id = none) := bPutM_2 h2
    clear h1 h2
    go_wp2_with fail
    go_ret2
    exact ⟨_, by rw [H.out]; rfl, by rw [H.out]; exact ⟨_, 0, 0, rfl, World.ownsRow_lit w1 #[] 0 Hb1.out.size (Nat.zero_le _) rfl⟩, Hb1.out.alloc Hb1.out.size _⟩
  have H : Hid (bPutM L id = some (bput L id)) := bPutM_t h1 h2
  clear h1 h2
  go_wp2_with fail
  refine (s_put A n c L id _ HX1.out (by omega)).mono ?_
  rintro e w2 ⟨v, rfl, hown, hb2⟩
  have Hb2 := hide (Hb1.out.trans (hb2.mono Hb1.out.size))
  clear hb2
  go_wp2_with fail
  go_ret2
  obtain ⟨A2, n2, c2, rfl, own⟩ := hown
  exact ⟨_, by rw [H.out]; rfl, by rw [H.out]; exact ⟨_, _, _, rfl, own_base own Hb1.out.size⟩, Hb2.out⟩

set_option maxHeartbeats 1000000 in
set_option maxRecDepth 100000 in
theorem s_BoxesGet (A : Option Addr) (n c : Nat) (X : List Bx) (s : ByteArray) (w : World) (hX : Bxs w w.heap.size A n X) (hS : BSmall X) (hn : n ≤ maxLen) :
    Calls Try.prog 31 #[.slice A n c, .string s] w fun e w' => Own1I w (bgetM X s) e w' := by
  obtain ⟨i1, hi1, hy0, hy1, hy2⟩ := info_parts' int_info
  have hU := Try.underlying23
  have hnm := hide hn
  unfold maxLen at hn
  have hl := hide hX.1
  have HX := hide hX
  have HS := hide hS
  obtain ⟨b, hb⟩ : ∃ b, bxsB X = b := ⟨_, rfl⟩
  have Hb := hide hb
  clear hX hS hb
  go_enter Try.func31, Try.ntmps31
  go_wp2_with fail
  go_loopw [5] (fun v wr => ∃ (k : Nat), k ≤ n ∧ v = .int .i64 k ∧ Hid (Below w.heap.size w wr) ∧ Hid (∀ a ∈ X.take k, a.1 ≠ s)) (fun v _ => n - (intOf v).toNat)
  case atStart => exact ⟨0, Nat.zero_le _, rfl, Below.refl _ _, fun a h => by simp at h⟩
  case round =>
    obtain ⟨k, hk, rfl, hbr, hno⟩ := hrel
    have hsz := hbr.out.size
    by_cases hlt : k < n
    · go_wp2_with fail
      refine (s_Bs A n c X _ ((HX.out.below hbr.out).up hsz) HS.out hnm.out).mono ?_
      rintro e w2 ⟨rfl, hb2⟩
      rw [Hb.out]
      have Hb2 := hide (hbr.out.trans (hb2.mono hsz))
      have hs2 := Hb2.out.size
      clear hb2
      cases b
      · have H : Hid (bgetM X s = []) := bgetM_f Hb.out
        go_wp2_with fail
        go_ret
        exact ⟨_, rfl, by rw [H.out]; exact ⟨_, 0, 0, rfl, World.ownsRow_lit w2 #[] 0 hs2 (Nat.zero_le _) rfl⟩, Hb2.out.alloc hs2 _⟩
      · obtain ⟨a, ha⟩ : ∃ a, X[k]? = some a := ⟨X[k]'(by have := hl.out; omega), List.getElem?_eq_getElem _⟩
        obtain ⟨g, off, A', n', c', rfl, hg, hc0, hc1, hn', hm', hf⟩ := (HX.out.below Hb2.out).at' ha
        have hgl : g < w2.heap.size := by omega
        by_cases e : a.1 = s
        · subst e
          have H : Hid (bgetM X a.1 = a.2) := (bgetM_t Hb.out).trans (bget_at (bxsB_asc Hb.out) ha)
          have hn6 : n' ≤ 6 := by have h1 := (bxsB_bx Hb.out (List.mem_of_getElem? ha)).2.1; have h2 := idsB_6 h1; have h3 := hf.ints.1; omega
          have own0 : (w2.alloc (.cells #[] 3)).ownsRow w.heap.size 3 1 (.slice (some ⟨w2.heap.size, 0, none⟩) 0 0) 0 (([] : List Int).map (Value.int .i64)) := World.ownsRow_lit w2 #[] 0 hs2 (Nat.zero_le _) rfl
          have Own0 := hide own0
          have hba := (Below.refl w2.heap.size w2).alloc (Nat.le_refl _) (.cells #[] 3)
          have Rdx := hide ((hf.ints.below ((Below.refl w.heap.size w2).alloc hs2 (.cells #[] 3))).rd)
          have b1 : 0 + n' ≤ maxLen := by unfold maxLen; omega
          have b2 : (0 + n') * 8 ≤ 140737488355328 := by omega
          clear own0 hba hf ha
          go_wp2_with (
            (at_builtin
             refine wpList_append_rd _ rfl (.tmp 23) (.tmp 28) _ rfl w.heap.size 3 i1 _ 1 8 hU hi1 hy0 hy1 hy2 rfl (by omega) (.slice (some ⟨w2.heap.size, 0, none⟩) 0 0) 0 (([] : List Int).map (Value.int .i64)) rfl Own0.out w.heap.size A' n' c' (a.2.map (Value.int .i64)) rfl Rdx.out (one_ints _) b1 b2 (by simp; omega) ?_
             intro v7 w7 own7 gr7 at7
             have Hb7 : Hid (Below w.heap.size w w7) := Below.own (Hb2.out.alloc hs2 _) gr7 Own0.out (Nat.le_refl _) (by simp; omega)
             obtain ⟨A7, c7, e7⟩ := own_slice own7
             subst e7
             rw [Nat.zero_add, List.map_nil, List.nil_append] at own7
             have Own7 := hide own7
             clear gr7 at7 own7))
          go_ret
          exact ⟨_, rfl, by rw [H.out]; exact ⟨_, _, _, rfl, Own7.out⟩, Hb7.out⟩
        · have hne := txt_ne e
          have H2 : Hid (∀ b ∈ X.take (k + 1), b.1 ≠ s) := fun b hb => by
            rw [List.take_add_one, ha] at hb
            rcases List.mem_append.1 hb with h | h
            · exact hno.out b h
            · simp at h; rw [h]; exact e
          clear ha hf e
          go_wp2_with fail
          go_roundw
          case rel => exact ⟨k + 1, by omega, by go_num, Hb2.out, H2⟩
          case measure => simp [intOf]; omega
    · have HN : Hid (bgetM X s = []) := by
        cases b
        · exact bgetM_f Hb.out
        · show _ = _
          rw [bgetM_t Hb.out]
          refine bget_none fun hm => ?_
          obtain ⟨j, L, hj⟩ := bnms_mem hm
          exact hno.out (s, L) (by rw [List.take_of_length_le (by have := hl.out; omega)]; exact List.mem_of_getElem? hj) rfl
      go_wp2_with fail
      go_ret
      exact ⟨_, rfl, by rw [HN.out]; exact ⟨_, 0, 0, rfl, World.ownsRow_lit wr #[] 0 hsz (Nat.zero_le _) rfl⟩, hbr.out.alloc hsz _⟩
end Go.Proofs.Ytfncmkmhdddmiaa
