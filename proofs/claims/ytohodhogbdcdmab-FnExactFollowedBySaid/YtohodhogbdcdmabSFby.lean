/- spec.FollowedBy. -/
import Derived.Test.YtohodhogbdcdmabFof
set_option linter.unusedVariables false
set_option linter.unusedSimpArgs false
namespace Go.Proofs.Ytohodhogbdcdmab
open Go.RowKit

theorem byF_take {X : List Acc} {k : Nat} {a : Acc} (s : ByteArray) (ha : X[k]? = some a) : byF (X.take (k + 1)) s = byF (X.take k) s ++ (if memB a.2 s = true then [a.1] else []) := by
  obtain ⟨h, e⟩ := List.getElem?_eq_some_iff.1 ha
  rw [List.take_succ_eq_append_getElem h, e]
  unfold byF
  rw [List.filter_append, List.map_append]
  cases hm : memB a.2 s <;> simp [hm]
theorem byF_le (X : List Acc) (s : ByteArray) : (byF X s).length ≤ X.length := by
  have := (byF_sub X s).length_le; rw [nms_len] at this; exact this

set_option maxHeartbeats 2000000 in
set_option maxRecDepth 100000 in
theorem s_fby (A : Option Addr) (n c : Nat) (X : List Acc) (s : ByteArray) (w : World) (hX : Accs w w.heap.size A n X) (hS : ASmall X) (hn : n ≤ maxLen) :
    Calls Try.prog 34 #[.slice A n c, .string s] w fun e w' => Own1 w (byM X s) e w' := by
  obtain ⟨i0, hi0, hz0, hz1, hz2⟩ := info_parts str_info
  have hU := Try.underlying29
  have HX := hide hX
  have HS := hide hS
  have Hn := hide hn
  have hl := hide hX.1
  have Hst : Hid ((w.alloc (.cells #[] 9)).ownsRow w.heap.size 9 1 (.slice (some ⟨w.heap.size, 0, none⟩) 0 0) 0 ((byF (X.take 0) s).map Value.string)) := World.ownsRow_lit w #[] 0 (Nat.le_refl _) (Nat.zero_le _) rfl
  have Hbs : Hid (Below w.heap.size w (w.alloc (.cells #[] 9))) := (Below.refl _ _).alloc (Nat.le_refl _) _
  have HX1 : Hid (Accs (w.alloc (.cells #[] 9)) (w.alloc (.cells #[] 9)).heap.size A n X) := hX.on Hbs.out
  clear hX hS hn
  cases hv : asB X
  · have H := hide (byM_f (s := s) hv)
    have Hv := hide hv
    clear hv
    by_cases h0 : n = 0
    · subst h0
      go_enter Try.func34, Try.ntmps34
      go_wp2_with fail
      go_loop [5, 6] (fun v i => v = .slice (some ⟨w.heap.size, 0, none⟩) 0 0 ∧ i = .int .i64 0) (fun _ _ => 0)
      case atStart => exact ⟨rfl, rfl⟩
      case round =>
        obtain ⟨rfl, rfl⟩ := hrel
        go_wp2_with fail
        go_ret
        rw [H.out]
        exact ⟨_, rfl, OwnL.mk Hst.out (by simp [byF]), Hbs.out⟩
    · have hlt : (0 : Int) < (n : Int) := by omega
      go_enter Try.func34, Try.ntmps34
      go_wp2_with fail
      go_loop [5, 6] (fun v i => v = .slice (some ⟨w.heap.size, 0, none⟩) 0 0 ∧ i = .int .i64 0) (fun _ _ => 0)
      case atStart => exact ⟨rfl, rfl⟩
      case round =>
        obtain ⟨rfl, rfl⟩ := hrel
        go_wp2_with fail
        refine (s_As A n c X _ HX1.out HS.out Hn.out).mono ?_
        rintro e w1 ⟨rfl, hb1⟩
        rw [Hv.out]
        have Hb1 := hide hb1
        clear hb1
        go_wp2_with fail
        go_ret
        rw [H.out]
        exact ⟨_, rfl, OwnL.mk (Hst.out.kept (grown_of_below Hb1.out (row := none)) (Classical.em _)) (by simp [byF]), Hbs.out.trans (Hb1.out.mono (by simp))⟩
  have H := hide (byM_t (s := s) hv)
  have hn6 : n ≤ 6 := by have := asB_6 hv; have := hl.out; omega
  have Hv := hide hv
  clear hv
  go_enter Try.func34, Try.ntmps34
  go_wp2_with fail
  go_loopw [5, 6] (fun v i wr => ∃ k m : Nat, k ≤ n ∧ i = .int .i64 k ∧ Hid (wr.ownsRow w.heap.size 9 1 v m ((byF (X.take k) s).map Value.string)) ∧ Hid (Below w.heap.size w wr)) (fun _ i _ => n - (intOf i).toNat)
  case atStart => exact ⟨0, 0, Nat.zero_le _, rfl, Hst.out, Hbs.out⟩
  case round =>
    obtain ⟨k, m, hk, rfl, hown, hbr⟩ := hrel
    by_cases hlt : k < n
    · obtain ⟨a, ha⟩ : ∃ a, X[k]? = some a := ⟨X[k]'(by have := hl.out; omega), List.getElem?_eq_getElem _⟩
      have hbt := hide (byF_take s ha)
      have hm6 : m ≤ 6 := by
        have h1 := own_len' hown.out
        have h2 := byF_le (X.take k) s
        rw [List.length_take] at h2
        omega
      have HXr := hide ((HX.out.below hbr.out).up hbr.out.size)
      go_wp2_with fail
      refine (s_As A n c X _ HXr.out HS.out Hn.out).mono ?_
      rintro e w1 ⟨rfl, hb1⟩
      rw [Hv.out]
      have Hb1 := hide (hbr.out.trans (hb1.mono hbr.out.size))
      have Hown1 := hide (hown.out.kept (grown_of_below hb1 (row := none)) (Classical.em _))
      clear hb1 hown hbr HXr
      obtain ⟨g, off, A', n', c', rfl, hg, hc0, hc1, hn', hm', hf⟩ := (HX.out.below Hb1.out).at' ha
      have Hf := hide (hf.strs.more Hb1.out.size)
      have hgw : g < w1.heap.size := Nat.lt_of_lt_of_le hg Hb1.out.size
      clear ha hf
      go_wp2_with fail
      refine (s_at A' n' c' a.2 s _ Hf.out hm').mono ?_
      rintro e w2 ⟨rfl, rfl⟩
      cases hms : memB a.2 s
      · have hbt2 : Hid (byF (X.take (k + 1)) s = byF (X.take k) s) := by
          have h := hbt.out
          rw [hms] at h
          show _ = _
          simpa using h
        have Hown2 : Hid (w1.ownsRow w.heap.size 9 1 u5 m ((byF (X.take (k + 1)) s).map Value.string)) := by
          show World.ownsRow _ _ _ _ _ _ _
          rw [hbt2.out]; exact Hown1.out
        rw [atI_f hms]
        clear hms hbt hbt2
        go_wp2_with fail
        go_roundw
        case rel => exact ⟨k + 1, m, by omega, by go_num, Hown2, Hb1⟩
        case measure => simp [intOf]; omega
      · obtain ⟨q, hq⟩ := atI_t hms
        have hbt2 : Hid (byF (X.take (k + 1)) s = byF (X.take k) s ++ [a.1]) := by
          have h := hbt.out
          rw [hms] at h
          show _ = _
          simpa using h
        have b1 : m + 1 ≤ maxLen := by unfold maxLen; omega
        have b2 : (m + 1) * 16 ≤ 140737488355328 := by omega
        rw [hq]
        clear hms hq hbt
        go_wp2_with (
          (at_builtin
           refine wpList_append_rd _ rfl (.tmp 26) (.tmp 32) _ rfl w.heap.size 9 i0 _ 1 16 hU hi0 hz0 hz1 hz2 rfl (by omega) u5 m ((byF (X.take k) s).map Value.string) rfl (Hown1.out.alloc _) (w1.heap.size + 1) (some ⟨w1.heap.size, 0, none⟩) 1 _ [Value.string a.1] rfl (Rd.one _ _ _) (one_strs [a.1]) b1 b2 (by simp; have := Hb1.out.size; omega) ?_
           intro v4 w4 own4 gr4 at4
           have Hb4 := hide (Below.own (Hb1.out.alloc Hb1.out.size _) gr4 (Hown1.out.alloc _) (Nat.le_refl _) (by simp; have := Hb1.out.size; omega))
           have Hown4 : Hid (w4.ownsRow w.heap.size 9 1 v4 (m + 1) ((byF (X.take (k + 1)) s).map Value.string)) := by
             show World.ownsRow _ _ _ _ _ _ _
             rw [hbt2.out, List.map_append]; exact own4
           clear gr4 at4 own4))
        go_roundw
        case rel => exact ⟨k + 1, m + 1, by omega, by go_num, Hown4, Hb4⟩
        case measure => simp [intOf]; omega
    · have HE : Hid (X.take k = X) := List.take_of_length_le (by have := hl.out; omega)
      go_wp2_with fail
      go_ret
      rw [H.out]
      have h := hown.out
      rw [HE.out] at h
      exact ⟨_, rfl, OwnL.mk h rfl, hbr.out⟩
end Go.Proofs.Ytohodhogbdcdmab
