/- Lines read: the spec's functions. -/
import Derived.Test.YtmofnmklodmkmaaGreatDoorRt
import Derived.Test.YtmofnmklodmkmaaGreatDoorWith
set_option linter.unusedVariables false
set_option linter.unusedSimpArgs false
namespace Go.Proofs.YtmofnmklodmkmaaGreatDoor
open Go.RowKit

theorem ext_tb (s : ByteArray) (a b : Nat) : s.extract a b = tb ((s.data.toList.take b).drop a) := by
  apply ba_ext
  rw [tb_data]
  simp only [ByteArray.data_extract, Array.toList_extract, List.extract_eq_take_drop]
  rw [List.drop_take]
theorem valL_snoc (l : Txt) (c : UInt8) : valL (l ++ [c]) = 10 * valL l + (c.toNat - 48) := by unfold valL; rw [List.foldl_append]; rfl
theorem valL_lt (l : Txt) (h : ∀ c ∈ l, isDg c = true) : l.length ≤ 3 → valL l < 1000 := by
  intro hl
  have : ∀ (l : Txt) (n : Nat), (∀ c ∈ l, isDg c = true) → l.foldl (fun n c => 10 * n + (c.toNat - 48)) n < (n + 1) * 10 ^ l.length := by
    intro l
    induction l with
    | nil => intro n _; simp
    | cons a l ih =>
      intro n h
      have h1 := ih (10 * n + (a.toNat - 48)) fun c hc => h c (List.mem_cons_of_mem _ hc)
      have h2 := isDg_iff.1 (h a (List.mem_cons_self ..))
      rw [List.foldl_cons, List.length_cons, Nat.pow_succ]
      refine Nat.lt_of_lt_of_le h1 ?_
      rw [Nat.mul_comm (10 ^ l.length) 10, ← Nat.mul_assoc]
      exact Nat.mul_le_mul_right _ (by omega)
  have h1 := this l 0 h
  unfold valL
  have h2 : 10 ^ l.length ≤ 10 ^ 3 := Nat.pow_le_pow_right (by omega) hl
  omega

set_option maxHeartbeats 1000000 in
set_option maxRecDepth 100000 in
theorem s_num (s : ByteArray) (w : World) (hs : s.size ≤ maxLen) :
    Calls Tryz.prog 58 #[.string s] w fun e w' => e = .returned (.int .i64 (numL s.data.toList)) ∧ w = w' := by
  unfold maxLen at hs
  go_enter Tryz.func58, Tryz.ntmps58
  go_wp2_with fail
  refine (s_in _ 1 3 _).mono ?_
  rintro e w' ⟨rfl, rfl⟩
  by_cases hb : 1 ≤ s.size ∧ s.size ≤ 3
  · rw [inB_t (by omega) (by omega)]
    obtain ⟨h1, h3⟩ := hb
    go_wp2_with fail
    go_loop [3, 4] (fun n i => ∃ k : Nat, k ≤ s.size ∧ i = .int .i64 k ∧ n = .int .i64 (valL (s.data.toList.take k) : Nat) ∧ Hid (∀ c ∈ s.data.toList.take k, isDg c = true)) (fun _ i => s.size - (intOf i).toNat)
    case atStart => exact ⟨0, Nat.zero_le _, rfl, rfl, by intro c hc; simp at hc⟩
    case round =>
      obtain ⟨k, hk, rfl, rfl, hd⟩ := hrel
      have hlen : (s.data.toList.take k).length ≤ 3 := by rw [List.length_take]; omega
      have hv := valL_lt _ hd.out hlen
      by_cases hlt : k < s.size
      · have hts : Hid (s.data.toList.take (k + 1) = s.data.toList.take k ++ [s[k]]) := by
          show _ = _
          rw [List.take_succ_eq_append_getElem (by simpa using hlt)]; rfl
        have hmem : s[k] ∈ s.data.toList := by rw [show s[k] = s.data.toList[k]'(by simpa using hlt) from rfl]; exact List.getElem_mem _
        have hc8 : s[k].toNat < 256 := s[k].toNat_lt
        cases hg : isDg s[k]
        · have H : Hid (numL s.data.toList = -1) := by
            show _ = _
            unfold numL
            rw [if_neg]
            unfold numB
            simp only [Bool.and_eq_true, decide_eq_true_eq, List.all_eq_true]
            intro h
            have := h.2.2 _ hmem
            rw [hg] at this
            cases this
          have hgn : s[k].toNat < 48 ∨ 57 < s[k].toNat := by
            by_cases h1 : s[k].toNat < 48
            · exact Or.inl h1
            · by_cases h2 : 57 < s[k].toNat
              · exact Or.inr h2
              · exfalso
                have : isDg s[k] = true := isDg_iff.2 ⟨by omega, by omega⟩
                rw [hg] at this
                cases this
          clear hg hmem
          rcases hgn with hgn | hgn
          · have q1 : (s[k].toNat : Int) < 48 := by omega
            go_wp2_with fail
            go_ret
            exact ⟨by rw [H.out]; rfl, rfl⟩
          · have q1 : ¬ ((s[k].toNat : Int) < 48) := by omega
            have q2 : (57 : Int) < (s[k].toNat : Int) := by omega
            go_wp2_with fail
            go_ret
            exact ⟨by rw [H.out]; rfl, rfl⟩
        · have hg2 := isDg_iff.1 hg
          have H : Hid (∀ c ∈ s.data.toList.take (k + 1), isDg c = true) := by
            intro c hc
            rw [hts.out, List.mem_append] at hc
            rcases hc with hc | hc
            · exact hd.out c hc
            · rw [List.mem_singleton.1 hc]; exact hg
          have H2 : Hid (valL (s.data.toList.take (k + 1)) = 10 * valL (s.data.toList.take k) + (s[k].toNat - 48)) := by show _ = _; rw [hts.out, valL_snoc]
          have q1 : ¬ ((s[k].toNat : Int) < 48) := by omega
          have q2 : ¬ ((57 : Int) < (s[k].toNat : Int)) := by omega
          obtain ⟨x, hx⟩ : ∃ x, valL (s.data.toList.take k) = x := ⟨_, rfl⟩
          rw [hx] at hv ⊢
          have HX := hide hx
          obtain ⟨y, hy⟩ : ∃ y : Nat, s[k].toNat = 48 + y := ⟨s[k].toNat - 48, by omega⟩
          clear hg hmem hx
          go_wp2_with fail
          go_round
          case rel => exact ⟨k + 1, by omega, by go_num, by rw [H2.out, HX.out]; go_num, H⟩
          case measure => simp [intOf]; omega
      · have H : Hid (numL s.data.toList = (valL (s.data.toList.take k) : Nat)) := by
          have e : s.data.toList.take k = s.data.toList := List.take_of_length_le (by simp; omega)
          have hd2 := hd.out
          rw [e] at hd2
          show _ = _
          rw [e]
          unfold numL
          rw [if_pos]
          unfold numB
          simp only [Bool.and_eq_true, decide_eq_true_eq, List.all_eq_true]
          have hsz : s.data.toList.length = s.size := by simp
          exact ⟨by omega, by omega, hd2⟩
        go_wp2_with fail
        go_ret
        exact ⟨by rw [H.out]; rfl, rfl⟩
  · have H : Hid (numL s.data.toList = -1) := by
      show _ = _
      unfold numL
      rw [if_neg]
      unfold numB
      have hsz : s.data.toList.length = s.size := by simp
      simp only [Bool.and_eq_true, decide_eq_true_eq]
      intro h
      omega
    rw [inB_f (by omega)]
    clear hb
    go_wp2_with fail
    go_ret
    exact ⟨by rw [H.out]; rfl, rfl⟩
theorem take_snoc (s : ByteArray) (k : Nat) (h : k < s.size) : s.data.toList.take (k + 1) = s.data.toList.take k ++ [s[k]] := by
  rw [List.take_succ_eq_append_getElem (by simpa using h)]; rfl
theorem cutF_snoc (l : Txt) (c : UInt8) : cutF (l ++ [c]) = cstep (cutF l) c := by unfold cutF; rw [List.foldl_append]; rfl

/-- The words so far, and where the word at hand began. -/
structure Cut (s : ByteArray) (k a : Nat) (O : List Txt) : Prop where
  le : a ≤ k
  ks : k ≤ s.size
  cut : cutF (s.data.toList.take k) = (O, (s.data.toList.take k).drop a)
  len : O.length ≤ k
theorem Cut.zero (s : ByteArray) : Cut s 0 0 [] := ⟨Nat.le_refl _, Nat.zero_le _, rfl, Nat.le_refl _⟩
theorem Cut.blank {s : ByteArray} {k a : Nat} {O : List Txt} (h : Cut s k a O) (hk : k < s.size) (hc : s[k] = 32) : Cut s (k + 1) (k + 1) (O ++ [(s.data.toList.take k).drop a]) := by
  refine ⟨Nat.le_refl _, hk, ?_, by have := h.len; simp; omega⟩
  rw [take_snoc s k hk, cutF_snoc, h.cut, hc]
  unfold cstep
  rw [if_pos rfl]
  congr 1
  rw [List.drop_of_length_le]
  simp; omega
theorem Cut.more {s : ByteArray} {k a : Nat} {O : List Txt} (h : Cut s k a O) (hk : k < s.size) (hc : s[k] ≠ 32) : Cut s (k + 1) a O := by
  have := h.le
  refine ⟨by omega, hk, ?_, by have := h.len; omega⟩
  rw [take_snoc s k hk, cutF_snoc, h.cut]
  unfold cstep
  rw [if_neg hc, List.drop_append_of_le_length (by simp; omega)]
theorem Cut.end' {s : ByteArray} {k a : Nat} {O : List Txt} (h : Cut s k a O) (hk : ¬ k < s.size) : O.map tb ++ [s.extract a s.size] = (cutL s.data.toList).map tb := by
  have e : s.data.toList.take k = s.data.toList := List.take_of_length_le (by simp; omega)
  have h1 := h.cut
  rw [e] at h1
  unfold cutL
  rw [h1, List.map_append, ext_tb, List.take_of_length_le (by simp)]
  rfl
theorem tb_strs (O : List Txt) (x : Txt) : (O.map tb).map Value.string ++ [Value.string (tb x)] = ((O ++ [x]).map tb).map Value.string := by simp

theorem row_slice {w : World} {base : Nat} {e : TypeId} {size m : Nat} {v : Value} {xs : List Value} (h : w.ownsRow base e size v m xs) : ∃ A c, v = .slice A m c := by
  rcases h.2 with ⟨rfl, rfl⟩ | ⟨g, cap, cur, rfl, _⟩
  · exact ⟨_, _, rfl⟩
  · exact ⟨_, _, rfl⟩

set_option maxHeartbeats 2000000 in
set_option maxRecDepth 100000 in
theorem s_cut (s : ByteArray) (w : World) (hs : s.size ≤ 1048576) :
    Calls Tryz.prog 57 #[.string s] w fun e w' => Own1 w ((cutL s.data.toList).map tb) e w' := by
  obtain ⟨i0, hi0, hz0, hz1, hz2⟩ := info_parts str_info
  have hU := Tryz.underlying61
  have h0 := (Below.refl w.heap.size w).alloc (Nat.le_refl _) (.cells #[] 9)
  have H0 := hide h0
  have own0 : (w.alloc (.cells #[] 9)).ownsRow w.heap.size 9 1 (.slice (some ⟨w.heap.size, 0, none⟩) 0 0) 0 [] := World.ownsRow_lit w #[] 0 (Nat.le_refl _) (Nat.zero_le _) rfl
  have Own0 := hide own0
  clear h0 own0
  go_enter Tryz.func57, Tryz.ntmps57
  go_wp2_with fail
  go_loopw [3, 4, 5] (fun u v i wr => ∃ (k a m : Nat) (O : List Txt) (A4 : Option Addr) (c4 : Nat), k ≤ s.size ∧ a ≤ k ∧ m ≤ k ∧ i = .int .i64 k ∧ v = .int .i64 a ∧ u = .slice A4 m c4 ∧ Hid (Cut s k a O) ∧ Hid (wr.ownsRow w.heap.size 9 1 (.slice A4 m c4) m ((O.map tb).map Value.string)) ∧ Hid (Below w.heap.size w wr)) (fun _ _ i _ => s.size - (intOf i).toNat)
  case atStart => exact ⟨0, 0, 0, [], _, _, Nat.zero_le _, Nat.le_refl _, Nat.le_refl _, rfl, rfl, rfl, Cut.zero s, Own0.out, H0.out⟩
  case round =>
    obtain ⟨k, a, m, O, A4, c4, hk, ha, hm, rfl, rfl, rfl, hcut, hown, hbr⟩ := hrel
    rename_i wr
    have b1 : m + 1 ≤ maxLen := by unfold maxLen; omega
    have b2 : (m + 1) * 16 ≤ 140737488355328 := by omega
    by_cases hlt : k < s.size
    · by_cases hc : s[k] = 32
      · have HC := hide (hcut.out.blank hlt hc)
        have Hx : Hid (Value.string (s.extract a k) = Value.string (tb ((s.data.toList.take k).drop a))) := by show _ = _; rw [ext_tb]
        have q1 : s[k].toNat = 32 := by rw [hc]; rfl
        clear hc
        go_wp2_with (
          (at_builtin
           refine wpList_append_rd _ rfl (.tmp 17) (.tmp 22) _ rfl w.heap.size 9 i0 _ 1 16 hU hi0 hz0 hz1 hz2 rfl (by omega) (.slice A4 m c4) m ((O.map tb).map Value.string) rfl (hown.out.alloc _) (wr.heap.size + 1) (some ⟨wr.heap.size, 0, none⟩) 1 _ [Value.string (s.extract a k)] rfl (Rd.one _ _ _) (one_strs [s.extract a k]) b1 b2 (by simp; have := hbr.out.size; omega) ?_
           intro v3 w3 own3 gr3 at3
           have hb3 := hide (Below.own (hbr.out.alloc hbr.out.size _) gr3 (hown.out.alloc _) (Nat.le_refl _) (by simp; have := hbr.out.size; omega))
           have own3' := hide own3
           clear gr3 at3 own3))
        obtain ⟨A5, c5, e5⟩ := row_slice own3'.out
        subst e5
        go_round
        case rel => exact ⟨k + 1, k + 1, m + 1, _, A5, c5, by omega, Nat.le_refl _, by omega, by go_num, by go_num, rfl, HC, by have h := own3'.out; rw [Hx.out, tb_strs] at h; exact h, hb3.out⟩
        case measure => simp [intOf]; omega
      · have HC := hide (hcut.out.more hlt hc)
        have q1 : ¬ s[k].toNat = 32 := fun h => hc (UInt8.toNat_inj.1 h)
        clear hc
        go_wp2_with fail
        go_round
        case rel => exact ⟨k + 1, a, m, O, _, _, by omega, by omega, by omega, by go_num, rfl, rfl, HC, hown, hbr⟩
        case measure => simp [intOf]; omega
    · have HC := hide (hcut.out.end' hlt)
      go_wp2_with (
        (at_builtin
         refine wpList_append_rd _ rfl (.tmp 26) (.tmp 30) _ rfl w.heap.size 9 i0 _ 1 16 hU hi0 hz0 hz1 hz2 rfl (by omega) (.slice A4 m c4) m ((O.map tb).map Value.string) rfl (hown.out.alloc _) (wr.heap.size + 1) (some ⟨wr.heap.size, 0, none⟩) 1 _ [Value.string (s.extract a s.size)] rfl (Rd.one _ _ _) (one_strs [s.extract a s.size]) b1 b2 (by simp; have := hbr.out.size; omega) ?_
         intro v3 w3 own3 gr3 at3
         have hb3 := hide (Below.own (hbr.out.alloc hbr.out.size _) gr3 (hown.out.alloc _) (Nat.le_refl _) (by simp; have := hbr.out.size; omega))
         have own3' := hide own3
         clear gr3 at3 own3))
      go_ret
      exact ⟨v3, rfl, OwnL.mk own3'.out (by rw [← HC.out]; simp), hb3.out⟩
end Go.Proofs.YtmofnmklodmkmaaGreatDoor
