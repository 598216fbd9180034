/- A line, read: the spec's. -/
import Derived.Test.YtmofnmklodmkmaaGreatDoorRo
set_option linter.unusedVariables false
set_option linter.unusedSimpArgs false
namespace Go.Proofs.YtmofnmklodmkmaaGreatDoor
open Go.RowKit

theorem cut_len {l : Txt} : ∀ {o : List Txt} {c : Txt} {M : Nat}, (∀ x ∈ o, x.length ≤ M) → c.length ≤ M → (∀ x ∈ (l.foldl cstep (o, c)).1, x.length ≤ M + l.length) ∧ (l.foldl cstep (o, c)).2.length ≤ M + l.length := by
  induction l with
  | nil => exact fun ho hc => ⟨ho, hc⟩
  | cons a l ih =>
    intro o c M ho hc
    rw [List.foldl_cons, List.length_cons, show M + (l.length + 1) = M + 1 + l.length by omega]
    unfold cstep
    split
    · refine ih (M := M + 1) ?_ (by simp)
      intro x hx
      rw [List.mem_append] at hx
      rcases hx with hx | hx
      · have := ho x hx; omega
      · rw [List.mem_singleton.1 hx]; simp only; omega
    · exact ih (M := M + 1) (fun x hx => by have := ho x hx; omega) (by simp; omega)
theorem cutL_len {l x : Txt} (h : x ∈ cutL l) : x.length ≤ l.length := by
  have := @cut_len l [] [] 0 (by simp) (by simp)
  unfold cutL at h
  rw [List.mem_append] at h
  rcases h with h | h
  · have := this.1 x h; omega
  · rw [List.mem_singleton.1 h]; have := this.2; unfold cutF; omega
theorem tb_size (l : Txt) : (tb l).size = l.length := by unfold tb ByteArray.size; simp
/-- What a line gives. -/
def fromV : Option (Int × Rec) → Value
  | some (p, r) => .tuple #[.int .i64 p, reV r, .bool true]
  | none => .tuple #[.int .i64 0, rV 0 0 0 ⟨#[]⟩ ⟨#[]⟩, .bool false]
theorem fromL_5 {s : Txt} (h : (cutL s).length ≠ 5) : fromL s = none := by
  unfold fromL
  have : of5 (cutL s) = none := by
    match hc : cutL s, h with
    | [a, b, c, d, e], h => exact absurd rfl h
    | [], _ => rfl
    | [_], _ => rfl
    | [_, _], _ => rfl
    | [_, _, _], _ => rfl
    | [_, _, _, _], _ => rfl
    | _ :: _ :: _ :: _ :: _ :: _ :: _, _ => rfl
  rw [this]; rfl
theorem len5 {s : Txt} (h : (cutL s).length = 5) : ∃ a b c d e, cutL s = [a, b, c, d, e] := by
  match hc : cutL s, h with
  | [a, b, c, d, e], _ => exact ⟨a, b, c, d, e, rfl⟩
theorem cut_some {s a b c d e : Txt} (h : cutL s = [a, b, c, d, e]) : s ≠ [] := by rintro rfl; cases h
theorem fromL_t {s a b c d e : Txt} (h : cutL s = [a, b, c, d, e]) (h2 : textL (numL a) (ofW b c d) = s) : fromL s = some (numL a, ofW b c d) := by
  unfold fromL
  rw [h]
  show (if s = [] ∨ textL (numL a) (ofW b c d) ≠ s then none else some (numL a, ofW b c d)) = _
  rw [if_neg]
  rintro (h3 | h3)
  · exact cut_some h h3
  · exact h3 h2
theorem fromL_f {s a b c d e : Txt} (h : cutL s = [a, b, c, d, e]) (h2 : ¬ textL (numL a) (ofW b c d) = s) : fromL s = none := by
  unfold fromL
  rw [h]
  show (if s = [] ∨ textL (numL a) (ofW b c d) ≠ s then none else some (numL a, ofW b c d)) = _
  rw [if_pos (.inr h2)]
theorem ofW_size {a b c : Txt} {M : Nat} (hb : b.length ≤ M) (hc : c.length ≤ M) : (ofW a b c).2.2.2.1.size ≤ M ∧ (ofW a b c).2.2.2.2.size ≤ M := by
  have hb' := tb_size b
  have hc' := tb_size c
  have h0 : (ByteArray.mk #[]).size = 0 := rfl
  unfold ofW
  split
  · exact ⟨by show (tb c).size ≤ M; omega, by show (ByteArray.mk #[]).size ≤ M; omega⟩
  split
  · exact ⟨by show (ByteArray.mk #[]).size ≤ M; omega, by show (ByteArray.mk #[]).size ≤ M; omega⟩
  split
  · exact ⟨by show (tb b).size ≤ M; omega, by show (tb c).size ≤ M; omega⟩
  split
  · exact ⟨by show (tb b).size ≤ M; omega, by show (tb c).size ≤ M; omega⟩
  · exact ⟨by show (ByteArray.mk #[]).size ≤ M; omega, by show (ByteArray.mk #[]).size ≤ M; omega⟩

set_option maxHeartbeats 8000000 in
set_option maxRecDepth 100000 in
theorem s_RF (s : ByteArray) (w : World) (hs : s.size ≤ 1048576) :
    Calls Tryz.prog 35 #[.string s] w fun e w' => e = .returned (fromV (fromL s.data.toList)) ∧ Below w.heap.size w w' := by
  have hsm : s.size ≤ maxLen := by unfold maxLen; omega
  have hsl : s.data.toList.length = s.size := by simp
  have HS := hide hs
  have HSM := hide hsm
  have HSL := hide hsl
  have HB0 := hide (Blk.new w 28 #[.int .i64 0, .int .i64 0, .int .i64 0, .string ⟨#[]⟩, .string ⟨#[]⟩])
  have Hb0 := hide ((Below.refl w.heap.size w).alloc (Nat.le_refl _) (.cells #[.int .i64 0, .int .i64 0, .int .i64 0, .string ⟨#[]⟩, .string ⟨#[]⟩] 28))
  clear hs hsm hsl
  go_enter Tryz.func35, Tryz.ntmps35
  go_wp2_with fail
  refine (s_cut s _ HS.out).mono ?_
  rintro e w1 ⟨v, rfl, ⟨A, n, c, rfl, own⟩, hb1⟩
  have HB1 := hide (HB0.out.below hb1 (by simp))
  have Hb1 := hide (Hb0.out.trans (hb1.mono (by simp)))
  have hs1 : w.heap.size + 1 ≤ w1.heap.size := by have h := hb1.size; simpa using h
  have HL1 := hide (Strs.of_own own)
  have hcap := (own_cap own).1
  have hl : (cutL s.data.toList).length = n := by have h := HL1.out.1; simpa using h
  clear hb1
  by_cases h5 : n = 5
  · subst h5
    obtain ⟨a, b, x, y, z, hcut⟩ := len5 hl
    have hml : ∀ q ∈ [a, b, x, y, z], q.length ≤ maxLen := fun q hq => Nat.le_trans (cutL_len (by rw [hcut]; exact hq)) (by rw [HSL.out]; exact HSM.out)
    have HLL : Hid (Strs w1 w1.heap.size A 5 [tb a, tb b, tb x, tb y, tb z]) := by
      have h := HL1.out
      rw [hcut] at h
      exact h
    have Hcut := hide hcut
    obtain ⟨g, off, rfl, hg, hc⟩ := HLL.out.2 (by omega)
    have hc0 := hc 0 _ rfl
    have HLW : Hid (Strs w1 w1.heap.size (some ⟨g, off + 1, none⟩) 3 [tb b, tb x, tb y]) := by
      refine ⟨rfl, fun _ => ⟨g, off + 1, rfl, hg, fun j t hj => ?_⟩⟩
      rw [Nat.add_assoc, Nat.add_comm 1 j]
      refine hc (j + 1) t ?_
      match j, hj with
      | 0, hj => exact hj
      | 1, hj => exact hj
      | 2, hj => exact hj
    have hca := hml a (by simp)
    rw [← tb_size] at hca
    have HML := hide hml
    rw [Nat.add_zero] at hc0
    clear hc hml hl hcut
    go_wp2_with fail
    refine (s_num _ _ hca).mono ?_
    rintro e w' ⟨rfl, rfl⟩
    rw [tb_data]
    go_wp2_with fail
    have hx1 := HML.out b (by simp)
    have hx2 := HML.out x (by simp)
    have hx3 := HML.out y (by simp)
    have hz1 := ofW_size (a := b) hx1 hx2
    have hz2 := ofW_size (a := b) hx2 hx3
    refine (s_of (some ⟨g, off + 1, none⟩) 3 _ (tb b) (tb x) (tb y) _ HLW.out (by rw [tb_size]; exact hx2) (by rw [tb_size]; exact hx3)).mono ?_
    rintro e w2 ⟨rfl, hb2⟩
    rw [tb_data, tb_data, tb_data]
    obtain ⟨p, hp⟩ : ∃ p, numL a = p := ⟨_, rfl⟩
    obtain ⟨k, i, d, t, u, hr⟩ : ∃ k i d t u, ofW b x y = (k, i, d, t, u) := ⟨_, _, _, _, _, rfl⟩
    rw [hr] at hz2 ⊢
    rw [hp]
    have HR := hide hr
    have HP := hide hp
    have HZ := hide hz2
    have HB2 := hide (HB1.out.below hb2 (by omega))
    have Hb2 := hide (Hb1.out.trans (hb2.mono (by omega)))
    have hs2 : w.heap.size + 1 ≤ w2.heap.size := by have h := hb2.size; omega
    have HB3 := hide (HB2.out.alloc (.cells #[.int .i64 k, .int .i64 i, .int .i64 d, .string t, .string u] 28))
    have HQ3 := hide (Blk.new w2 28 #[.int .i64 k, .int .i64 i, .int .i64 d, .string t, .string u])
    have Hb3 := hide (Hb2.out.alloc (by omega) (.cells #[.int .i64 k, .int .i64 i, .int .i64 d, .string t, .string u] 28))
    have hne : s.toList.isEmpty = false := by
      rw [emB_eq]
      cases he : emB s
      · rfl
      · rw [emB_iff] at he
        subst he
        exact absurd rfl (cut_some Hcut.out)
    obtain ⟨⟨l0, l1, l2, l3, l4⟩, _⟩ := HQ3.out.cells5
    clear hx1 hx2 hx3 hz1 hz2 hr hp hb2 hc0
    go_wp2_with fail
    refine (s_RT p k i d t u _ HZ.out.1 HZ.out.2).mono ?_
    rintro e w4 ⟨rfl, hb4⟩
    have HB4 := hide (HB3.out.below hb4 (by simp; omega))
    have Hb4 := hide (Hb3.out.trans (hb4.mono (by simp; omega)))
    have HQ4 := hide (HQ3.out.below hb4 (by simp))
    obtain ⟨T, hT⟩ : ∃ T, rtxt p (k, i, d, t, u) = T := ⟨_, rfl⟩
    have htl : T.data.toList = textL p (k, i, d, t, u) := by rw [← hT]; exact tb_data _
    rw [hT]
    clear hb4 hT l0 l1 l2 l3 l4
    by_cases hq : T = s
    · have H : Hid (fromL s.data.toList = some (p, (k, i, d, t, u))) := by
        show _ = _
        rw [← HP.out, ← HR.out]
        refine fromL_t Hcut.out ?_
        rw [HP.out, HR.out, ← htl, hq]
      have q1 : (T.toList == s.toList) = true := by rw [beq_str]; simpa using hq
      have Hbe := hide (below_put5 Hb4.out (Nat.le_refl _) (.int .i64 k) (.int .i64 i) (.int .i64 d) (.string t) (.string u)).drew
      obtain ⟨⟨c0, c1, c2, c3, c4⟩, f0, f1, f2, f3, f4⟩ := HB4.out.cells5
      obtain ⟨⟨l0, l1, l2, l3, l4⟩, _⟩ := HQ4.out.cells5
      clear hq htl
      go_wp2_with fail
      go_region
      all_goals
        go_wp2_with fail
        exact bodyPost_ret (v := .tuple #[.int .i64 p, rV k i d t u, .bool true]) (by simp [results, Tryz.results35, go_sem, c0, c1, c2, c3, c4]) rfl ⟨by rw [H.out]; rfl, Hbe.out⟩
    · have H : Hid (fromL s.data.toList = none) := by
        refine fromL_f Hcut.out ?_
        rw [HP.out, HR.out, ← htl]
        intro h
        exact hq (ba_ext h)
      have q1 : (T.toList == s.toList) = false := by rw [beq_str]; simpa using hq
      clear hq htl
      have Hbe := hide (below_put5 Hb4.out (Nat.le_refl _) (.int .i64 0) (.int .i64 0) (.int .i64 0) (.string ⟨#[]⟩) (.string ⟨#[]⟩))
      obtain ⟨⟨c0, c1, c2, c3, c4⟩, f0, f1, f2, f3, f4⟩ := HB4.out.cells5
      go_wp2_with fail
      exact bodyPost_ret (v := .tuple #[.int .i64 0, rV 0 0 0 ⟨#[]⟩ ⟨#[]⟩, .bool false]) (by simp [results, Tryz.results35, go_sem, c0, c1, c2, c3, c4]) rfl ⟨by rw [H.out]; rfl, Hbe.out⟩
  · have H : Hid (fromL s.data.toList = none) := fromL_5 (by rw [hl]; exact h5)
    clear hl own
    have Hbe := hide (below_put5 Hb1.out (Nat.le_refl _) (.int .i64 0) (.int .i64 0) (.int .i64 0) (.string ⟨#[]⟩) (.string ⟨#[]⟩))
    obtain ⟨⟨c0, c1, c2, c3, c4⟩, f0, f1, f2, f3, f4⟩ := HB1.out.cells5
    go_wp2_with fail
    exact bodyPost_ret (v := .tuple #[.int .i64 0, rV 0 0 0 ⟨#[]⟩ ⟨#[]⟩, .bool false]) (by simp [results, Tryz.results35, go_sem, c0, c1, c2, c3, c4]) rfl ⟨by rw [H.out]; rfl, Hbe.out⟩
end Go.Proofs.YtmofnmklodmkmaaGreatDoor
