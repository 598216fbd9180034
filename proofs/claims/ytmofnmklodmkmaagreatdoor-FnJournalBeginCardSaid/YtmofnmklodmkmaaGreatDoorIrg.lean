/- RecordFrom of the program. -/
import Derived.Test.YtmofnmklodmkmaaGreatDoorIrf
set_option linter.unusedVariables false
set_option linter.unusedSimpArgs false
namespace Go.Proofs.YtmofnmklodmkmaaGreatDoor
open Go.RowKit Go.BigFrame

theorem split_strs (s : ByteArray) (hs : s.size ≤ 1048576) (w : World) (hV : Vw w) :
    Calls Tryz.prog 65 #[.string s, .string ⟨#[32]⟩] w fun e w' => ∃ A, e = .returned (.slice A (cutL s.data.toList).length (cutL s.data.toList).length) ∧ Strs w' w'.heap.size A (cutL s.data.toList).length ((cutL s.data.toList).map tb) ∧ Below w.heap.size w w' :=
  (split_call s hs w hV).mono fun e w' ⟨h1, h2⟩ => ⟨_, h1, by rw [h2]; exact (Strs.lit w _ _ _ (by simp)).more (by simp), by rw [h2]; exact (Below.refl _ _).alloc (Nat.le_refl _) _⟩
theorem Later.kfrom {B : Nat} {W : World} (z : Later B W) {a b c : ByteArray} {v : Value} (h : kfV a.data.toList b.data.toList c.data.toList = v) (hb : b.size ≤ 1048576) (hc : c.size ≤ 1048576) (hB : B ≤ W.heap.size) (hV : ∀ z : Later B W, Vw z.it) :
    Calls Tryz.prog 66 #[.string a, .string b, .string c] z.it fun e w'' => e = .returned v ∧ ∃ z' : Later B W, w'' = z'.it :=
  Later.call ((k_from a b c z.it hb hc (hV z)).mono fun e w' ⟨h1, h2⟩ => ⟨by rw [h1, h], h2.mono (by have := z.below.size; omega)⟩)

set_option maxHeartbeats 8000000 in
set_option maxRecDepth 100000 in
theorem i_RF (s : ByteArray) (w : World) (hs : s.size ≤ 1048576) (hV : Vw w) :
    Calls Tryz.prog 52 #[.string s] w fun e w' => e = .returned (fromV (fromL s.data.toList)) ∧ Below w.heap.size w w' := by
  have hsl : s.data.toList.length = s.size := by simp
  have HS := hide hs
  have HSL := hide hsl
  have HV := hide hV
  have HB0 := hide (Blk.new w 28 #[.int .i64 0, .int .i64 0, .int .i64 0, .string ⟨#[]⟩, .string ⟨#[]⟩])
  have Hb0 := hide ((Below.refl w.heap.size w).alloc (Nat.le_refl _) (.cells #[.int .i64 0, .int .i64 0, .int .i64 0, .string ⟨#[]⟩, .string ⟨#[]⟩] 28))
  clear hs hsl hV
  go_enter Tryz.func52, Tryz.ntmps52
  go_wp2_with fail
  refine (split_strs s HS.out _ (HV.out.on Hb0.out)).mono ?_
  rintro e w1 ⟨A, rfl, hL, hb1⟩
  have HB1 := hide (HB0.out.below hb1 (by simp))
  have Hb1 := hide (Hb0.out.trans (hb1.mono (by simp)))
  have hs1 : w.heap.size + 1 ≤ w1.heap.size := by have h := hb1.size; simpa using h
  have HL1 := hide hL
  obtain ⟨n, hl⟩ : ∃ n, (cutL s.data.toList).length = n := ⟨_, rfl⟩
  rw [hl] at HL1 ⊢
  clear hb1 hL
  by_cases h5 : n = 5
  · subst h5
    obtain ⟨a, b, x, y, z, hcut⟩ := len5 hl
    have hml : ∀ q ∈ [a, b, x, y, z], q.length ≤ 1048576 := fun q hq => Nat.le_trans (cutL_len (by rw [hcut]; exact hq)) (by rw [HSL.out]; exact HS.out)
    have HLL : Hid (Strs w1 w1.heap.size A 5 [tb a, tb b, tb x, tb y, tb z]) := by
      have h := HL1.out
      rw [hcut] at h
      exact h
    have Hcut := hide hcut
    obtain ⟨g, off, rfl, hg, hc⟩ := HLL.out.2 (by omega)
    have hc0 := hc 0 _ rfl
    have hc1 := hc 1 _ rfl
    have hc2 := hc 2 _ rfl
    have hc3 := hc 3 _ rfl
    rw [Nat.add_zero] at hc0
    have HW0 := hide hc0
    have hz1 : ∀ z : Later w1.heap.size w1, z.it.cell? ⟨g, off + 1, none⟩ = some (.string (tb b)) := fun z => (z.cell hg).trans hc1
    have hz2 : ∀ z : Later w1.heap.size w1, z.it.cell? ⟨g, off + 2, none⟩ = some (.string (tb x)) := fun z => (z.cell hg).trans hc2
    have hz3 : ∀ z : Later w1.heap.size w1, z.it.cell? ⟨g, off + 3, none⟩ = some (.string (tb y)) := fun z => (z.cell hg).trans hc3
    have HVz : Hid (∀ z : Later w1.heap.size w1, Vw z.it) := fun z => HV.out.on (Hb1.out.trans (z.below.mono (by omega)))
    have ha0 : (tb a).size ≤ 1048576 := by rw [tb_size]; exact hml a (by simp)
    have hx0 : (tb x).size ≤ 1048576 := by rw [tb_size]; exact hml x (by simp)
    have hy0 : (tb y).size ≤ 1048576 := by rw [tb_size]; exact hml y (by simp)
    have HA := hide ha0
    have HX := hide hx0
    have HY := hide hy0
    have hz4 : (ofN b x y (wnum x) (wnum y)).2.2.2.1.size ≤ 1048576 ∧ (ofN b x y (wnum x) (wnum y)).2.2.2.2.size ≤ 1048576 := ofN_size (hml x (by simp)) (hml y (by simp))
    clear hc hc0 hc1 hc2 hc3 ha0 hx0 hy0 hml hl hcut HL1 HLL
    by_cases hk : kw b
    · obtain ⟨R, hR⟩ : ∃ R, ofN b x y (wnum x) (wnum y) = R := ⟨_, rfl⟩
      obtain ⟨K, hK⟩ : ∃ K, kV R = K := ⟨_, rfl⟩
      have HK : Hid (kfV (tb b).data.toList (tb x).data.toList (tb y).data.toList = .tuple #[K, .bool true]) := by show _ = _; rw [tb_data, tb_data, tb_data, kfV_t hk, hR, hK]
      have HKR := hide hK
      have HRO := hide hR
      have HKW := hide hk
      rw [hR] at hz4
      have HZ := hide hz4
      clear hk hK hR hz4
      go_wp2_with fail
      refine wp_region_later (B := w1.heap.size) (by kernel_rfl) (by kernel_rfl) ?_
      repeat (go_big_quiet_step ((first | (go_at_call 66; exact Later.kfrom _ HK.out HX.out HY.out (Nat.le_refl _) HVz.out))))
      refine wpQuiet_nil ?_
      intro _ hw'
      obtain ⟨⟨w5, hb5⟩, hw''⟩ := hw'
      subst hw''
      have Hb5 := hide hb5
      clear hb5
      have HB5 := hide (HB1.out.below Hb5.out (by omega))
      have Hw5 := hide (Hb1.out.trans (Hb5.out.mono (by omega)))
      have hs5 := Nat.le_trans hs1 Hb5.out.size
      have k0 := (Hb5.out.cell (p := ⟨g, off, none⟩) hg).trans HW0.out
      clear hz1 hz2 hz3
      go_wp2_with fail
      refine (w_num (tb a) _ HA.out (HV.out.on Hw5.out)).mono ?_
      rintro e w6 ⟨rfl, hb6⟩
      have HB6 := hide (HB5.out.below hb6 (by omega))
      have Hw6 := hide (Hw5.out.trans (hb6.mono (by omega)))
      have hs6 : w.heap.size + 1 ≤ w6.heap.size := by have h := hb6.size; omega
      clear hb6 k0
      rw [tb_data]
      go_wp2_with fail
      rw [← HKR.out, ← HRO.out]
      refine (k_of b x y (wnum x) (wnum y) _ HKW.out).mono ?_
      rintro e w2 ⟨rfl, hb2⟩
      obtain ⟨p, hp⟩ : ∃ p, wnum a = p := ⟨_, rfl⟩
      rw [HRO.out, hp]
      obtain ⟨k, i, d, t, u, hr⟩ : ∃ k i d t u, R = (k, i, d, t, u) := ⟨_, _, _, _, _, rfl⟩
      have HR := hide (HRO.out.trans hr)
      have HP := hide hp
      have HZ2 : Hid (t.size ≤ maxLen ∧ u.size ≤ maxLen) := by
        have h := HZ.out
        rw [hr] at h
        unfold maxLen
        exact ⟨Nat.le_trans h.1 (by omega), Nat.le_trans h.2 (by omega)⟩
      rw [hr]
      have HB2 := hide (HB6.out.below hb2 (by omega))
      have Hb2 := hide (Hw6.out.trans (hb2.mono (by omega)))
      have hs2 : w.heap.size + 1 ≤ w2.heap.size := by have h := hb2.size; omega
      have HB3 := hide (HB2.out.alloc (.cells #[.int .i64 k, .int .i64 i, .int .i64 d, .string t, .string u] 28))
      have HQ3 := hide (Blk.new w2 28 #[.int .i64 k, .int .i64 i, .int .i64 d, .string t, .string u])
      have Hb3 := hide (Hb2.out.alloc (by omega) (.cells #[.int .i64 k, .int .i64 i, .int .i64 d, .string t, .string u] 28))
      obtain ⟨⟨l0, l1, l2, l3, l4⟩, _⟩ := HQ3.out.cells5
      clear hp hb2 hr
      go_wp2_with fail
      refine (i_RT p k i d t u _ HZ2.out.1 HZ2.out.2 (HV.out.on Hb3.out).tw).mono ?_
      rintro e w4 ⟨rfl, hb4⟩
      have HB4 := hide (HB3.out.below hb4 (by simp; omega))
      have Hb4 := hide (Hb3.out.trans (hb4.mono (by simp; omega)))
      have HQ4 := hide (HQ3.out.below hb4 (by simp))
      obtain ⟨T, hT⟩ : ∃ T, rtxt p (k, i, d, t, u) = T := ⟨_, rfl⟩
      have htl : T.data.toList = textL p (k, i, d, t, u) := by rw [← hT]; exact tb_data _
      rw [hT]
      clear hb4 hT l0 l1 l2 l3 l4
      by_cases hq : T = s
      · have H : Hid (fromL s.data.toList = some (p, (k, i, d, t, u))) := by
          show _ = _
          rw [← HR.out, ← HP.out]
          refine from_same Hcut.out ?_
          rw [HR.out, HP.out, ← htl, hq]
        have q1 : (T.toList == s.toList) = true := by rw [beq_str]; simpa using hq
        have Hbe := hide (below_put5 Hb4.out (Nat.le_refl _) (.int .i64 k) (.int .i64 i) (.int .i64 d) (.string t) (.string u)).drew
        obtain ⟨⟨c0, c1, c2, c3, c4⟩, f0, f1, f2, f3, f4⟩ := HB4.out.cells5
        obtain ⟨⟨l0, l1, l2, l3, l4⟩, _⟩ := HQ4.out.cells5
        clear hq htl
        go_wp2_with fail
        go_region
        all_goals
          go_wp2_with fail
          exact bodyPost_ret (v := .tuple #[.int .i64 p, rV k i d t u, .bool true]) (by simp [results, Tryz.results52, go_sem, c0, c1, c2, c3, c4]) rfl ⟨by rw [H.out]; rfl, Hbe.out⟩
      · have H : Hid (fromL s.data.toList = none) := by
          refine from_other (p := p) (x := wnum x) (y := wnum y) Hcut.out (by rw [← HP.out]; exact wnum_ok a) (wnum_ok x) (wnum_ok y) ?_
          rw [HR.out, ← htl]
          intro h
          exact hq (ba_ext h)
        have q1 : (T.toList == s.toList) = false := by rw [beq_str]; simpa using hq
        clear hq htl
        have Hbe := hide (below_put5 Hb4.out (Nat.le_refl _) (.int .i64 0) (.int .i64 0) (.int .i64 0) (.string ⟨#[]⟩) (.string ⟨#[]⟩))
        obtain ⟨⟨c0, c1, c2, c3, c4⟩, f0, f1, f2, f3, f4⟩ := HB4.out.cells5
        go_wp2_with fail
        exact bodyPost_ret (v := .tuple #[.int .i64 0, rV 0 0 0 ⟨#[]⟩ ⟨#[]⟩, .bool false]) (by simp [results, Tryz.results52, go_sem, c0, c1, c2, c3, c4]) rfl ⟨by rw [H.out]; rfl, Hbe.out⟩
    · have H : Hid (fromL s.data.toList = none) := from_kw Hcut.out hk
      have HK : Hid (kfV (tb b).data.toList (tb x).data.toList (tb y).data.toList = .tuple #[.nilIface, .bool false]) := by show _ = _; rw [tb_data, tb_data, tb_data, kfV_f hk]
      clear hk hz4
      go_wp2_with fail
      refine wp_region_later (B := w1.heap.size) (by kernel_rfl) (by kernel_rfl) ?_
      repeat (go_big_quiet_step ((first | (go_at_call 66; exact Later.kfrom _ HK.out HX.out HY.out (Nat.le_refl _) HVz.out))))
      refine wpQuiet_nil ?_
      intro _ hw'
      obtain ⟨⟨w5, hb5⟩, hw''⟩ := hw'
      subst hw''
      have Hb5 := hide hb5
      clear hb5
      have HB5 := hide (HB1.out.below Hb5.out (by omega))
      have Hw5 := hide (Hb1.out.trans (Hb5.out.mono (by omega)))
      clear hz1 hz2 hz3
      have Hbe := hide (below_put5 Hw5.out (Nat.le_refl _) (.int .i64 0) (.int .i64 0) (.int .i64 0) (.string ⟨#[]⟩) (.string ⟨#[]⟩))
      obtain ⟨⟨c0, c1, c2, c3, c4⟩, f0, f1, f2, f3, f4⟩ := HB5.out.cells5
      go_wp2_with fail
      exact bodyPost_ret (v := .tuple #[.int .i64 0, rV 0 0 0 ⟨#[]⟩ ⟨#[]⟩, .bool false]) (by simp [results, Tryz.results52, go_sem, c0, c1, c2, c3, c4]) rfl ⟨by rw [H.out]; rfl, Hbe.out⟩
  · have H : Hid (fromL s.data.toList = none) := fromL_5 (by rw [hl]; exact h5)
    clear hl
    have Hbe := hide (below_put5 Hb1.out (Nat.le_refl _) (.int .i64 0) (.int .i64 0) (.int .i64 0) (.string ⟨#[]⟩) (.string ⟨#[]⟩))
    obtain ⟨⟨c0, c1, c2, c3, c4⟩, f0, f1, f2, f3, f4⟩ := HB1.out.cells5
    go_wp2_with fail
    exact bodyPost_ret (v := .tuple #[.int .i64 0, rV 0 0 0 ⟨#[]⟩ ⟨#[]⟩, .bool false]) (by simp [results, Tryz.results52, go_sem, c0, c1, c2, c3, c4]) rfl ⟨by rw [H.out]; rfl, Hbe.out⟩
end Go.Proofs.YtmofnmklodmkmaaGreatDoor
