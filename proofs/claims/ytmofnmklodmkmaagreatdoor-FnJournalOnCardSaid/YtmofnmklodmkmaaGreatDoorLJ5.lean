/- Walk of FnJournalOn. -/
import Derived.Test.YtmofnmklodmkmaaGreatDoorLJ2
import Derived.Test.YtmofnmklodmkmaaGreatDoorSameR
import Derived.IntWalk
set_option linter.unusedVariables false
set_option linter.unusedSimpArgs false
namespace Go.Proofs.YtmofnmklodmkmaaGreatDoor
open Go.RowKit Go.BigFrame

theorem Blk.later5' {w : World} {g B : Nat} {T : TypeId} {a b d s t : Value} (h : Blk w g T #[a, b, d, s, t]) (hB : g < B) : ∀ z : Later B w, z.it.cell? ⟨g, 0, none⟩ = some a ∧ z.it.cell? ⟨g, 1, none⟩ = some b ∧ z.it.cell? ⟨g, 2, none⟩ = some d ∧ z.it.cell? ⟨g, 3, none⟩ = some s ∧ z.it.cell? ⟨g, 4, none⟩ = some t := fun z =>
  ⟨(z.cell hB).trans (h.cell 0), (z.cell hB).trans (h.cell 1), (z.cell hB).trans (h.cell 2), (z.cell hB).trans (h.cell 3), (z.cell hB).trans (h.cell 4)⟩
theorem rc5_later {W : World} {B g o : Nat} {a : Rec} (h : Rc5 W g o a) (hg : g < B) : ∀ z : Later B W, z.it.cell? ⟨g, o, none⟩ = some (.int .i64 a.1) ∧ z.it.cell? ⟨g, o + 1, none⟩ = some (.int .i64 a.2.1) ∧ z.it.cell? ⟨g, o + 2, none⟩ = some (.int .i64 a.2.2.1) ∧ z.it.cell? ⟨g, o + 3, none⟩ = some (.string a.2.2.2.1) ∧ z.it.cell? ⟨g, o + 4, none⟩ = some (.string a.2.2.2.2) := fun z =>
  ⟨(z.cell hg).trans h.1, (z.cell hg).trans h.2.1, (z.cell hg).trans h.2.2.1, (z.cell hg).trans h.2.2.2.1, (z.cell hg).trans h.2.2.2.2⟩

set_option maxHeartbeats 1000000 in
set_option maxRecDepth 100000 in
theorem FnJournalOn_walk (w : World) (A : Option Addr) (n c : Nat) (hc : Code w w.heap.size A n) (hnc : n ≤ c) (hm : n ≤ maxLen) (hV : Jw w) :
    Calls Tryz.prog 8 #[.slice A n c] w fun e w' => e = .returned (.bool true) ∧ Below w.heap.size w w' := by
  have HVw := hide hV
  clear hV
  by_cases h : 1048576 < n
  · unfold maxLen at hm
    go_enter Tryz.func8, Tryz.ntmps8
    go_wp2
    go_ret
    exact ⟨rfl, Below.refl _ _⟩
  go_enter Tryz.func8, Tryz.ntmps8
  go_wp2_with fail
  refine (d_JournalFrom A n c w hc hnc (by omega)).mono ?_
  rintro e w1 ⟨s, rfl, hs, hb1⟩
  have Hb1 := hide hb1
  have hz1 : w.heap.size ≤ w1.heap.size := hb1.size
  clear hc hb1
  go_wp2_with fail
  refine (i_JF s _ (by omega) (HVw.out.on Hb1.out)).mono ?_
  rintro e w2 ⟨v2, X, m, why, rfl, hj, hO2, hb2⟩
  obtain ⟨A2, n2, c2, rfl, hl2, hnc2, _, hR2⟩ := hO2.rcs
  have HJ := hide hj
  have HR2 := hide hR2
  have HL := hide hl2
  have Hb2 := hide (Hb1.out.trans (hb2.mono hz1))
  have hz2 : w1.heap.size ≤ w2.heap.size := hb2.size
  have hX30 : X.length ≤ 30 := (jf_text hj).2.2.2.2.1
  have hn2 : n2 ≤ 30 := by omega
  have hn2m : n2 ≤ maxLen := by unfold maxLen; omega
  clear hb2 hj hO2 hR2 hl2 hX30
  go_wp2_with fail
  refine (s_JF s _ (by omega)).mono ?_
  rintro e w3 ⟨v3, X3, m3, why3, rfl, hj, hO3, hb3⟩
  rw [HJ.out] at hj
  injection hj with e1 e2
  injection e2 with e2 e3
  subst e1 e2 e3
  obtain ⟨A3, n3, c3, rfl, _, _, _, hR3⟩ := hO3.rcs
  have HR3 := hide hR3
  have HA3 := hide (HR2.out.on hb3)
  have Hb3 := hide (Hb2.out.trans (hb3.mono (by omega)))
  have hz3 : w2.heap.size ≤ w3.heap.size := hb3.size
  clear hb3 hO3 hR3
  go_wp2_with fail
  refine (l_sameR _ HA3.out HR3.out hn2m).mono ?_
  rintro e w4 ⟨rfl, hb4⟩
  have HA4 := hide (HA3.out.on hb4)
  have HR4 := hide (HR3.out.on hb4)
  have Hb4 := hide (Hb3.out.trans (hb4.mono (by omega)))
  have hz4 : w3.heap.size ≤ w4.heap.size := hb4.size
  clear hb4
  by_cases hw0 : why = 0
  rotate_left
  · have q1 : decide (why = 0) = false := by simpa using hw0
    have q2 : (why == 0) = false := by simpa using hw0
    go_wp2_with fail
    refine (l_sameR _ HA4.out HR4.out hn2m).mono ?_
    rintro e w5 ⟨rfl, hb5⟩
    have Hb5 := hide (Hb4.out.trans (hb5.mono (by omega)))
    clear hb5
    go_wp2_with fail
    go_ret
    exact ⟨rfl, Hb5.out⟩
  subst hw0
  have hw : IntKind.i64.wrap ((n2 : Int) + 1) = (n2 : Int) + 1 := IntWalk.i64_in _ (by omega)
  have HQ4 := hide (Blk.new w4 28 #[.int .i64 3, .int .i64 0, .int .i64 0, .string ⟨#[120]⟩, .string ⟨#[121]⟩])
  have HbA := hide (Hb4.out.alloc Hb4.out.size (rC 3 0 0 ⟨#[120]⟩ ⟨#[121]⟩))
  obtain ⟨⟨l0, l1, l2, l3, l4⟩, _⟩ := HQ4.out.cells5
  go_wp2_with fail
  refine (i_RT ((n2 : Int) + 1) 3 0 0 ⟨#[120]⟩ ⟨#[121]⟩ _ (by decide) (by decide) (HVw.out.on HbA.out).tw).mono ?_
  rintro e w5 ⟨rfl, hb5⟩
  have HQ5 := hide (HQ4.out.below hb5 (by simp))
  have Hb5 := hide (HbA.out.trans (hb5.mono (by simp; omega)))
  have hz5 : w4.heap.size + 1 ≤ w5.heap.size := by have h := hb5.size; simpa using h
  have hts := rtxt_size ((n2 : Int) + 1) (3, 0, 0, ⟨#[120]⟩, ⟨#[121]⟩)
  have htl : (rtxt ((n2 : Int) + 1) (3, 0, 0, ⟨#[120]⟩, ⟨#[121]⟩)).data.toList = textL ((n2 : Int) + 1) (3, 0, 0, ⟨#[120]⟩, ⟨#[121]⟩) := tb_data _
  obtain ⟨T, hT⟩ : ∃ T, rtxt ((n2 : Int) + 1) (3, 0, 0, ⟨#[120]⟩, ⟨#[121]⟩) = T := ⟨_, rfl⟩
  rw [hT] at hts htl ⊢
  have HTL := hide htl
  clear hb5 hT htl l0 l1 l2 l3 l4
  have hsz : (s ++ T ++ ⟨#[10]⟩ : ByteArray).size ≤ 1048576 := by rw [ByteArray.size_append, ByteArray.size_append]; show s.size + T.size + 1 ≤ _; omega
  go_wp2_with fail
  refine (i_JF _ _ hsz (HVw.out.on Hb5.out)).mono ?_
  rintro e w6 ⟨v6, X6, m6, why6, rfl, hj, hO6, hb6⟩
  obtain ⟨A6, n6, c6, rfl, hl6, _, _, hR6⟩ := hO6.rcs
  have HJ6 := hide hj
  have HR6 := hide hR6
  have HL6 := hide hl6
  have HQ6 := hide (HQ5.out.below hb6 (by omega))
  have Hb6 := hide (Hb5.out.trans (hb6.mono (by omega)))
  have hz6 : w5.heap.size ≤ w6.heap.size := hb6.size
  clear hb6 hj hO6 hR6 hl6 hsz
  cases he : emB T
  rotate_left
  · have q0 : T.toList.isEmpty = true := (emB_eq T).trans he
    clear he
    go_wp2_with fail
    refine wp_region_later (B := w6.heap.size) (by kernel_rfl) (by kernel_rfl) ?_
    repeat (go_big_quiet_step ((fail)))
    refine wpQuiet_nil ?_
    intro _ hw'
    obtain ⟨⟨w5, hb5⟩, hw''⟩ := hw'
    subst hw''
    have Hb5 := hide hb5
    clear hb5
    go_wp2_with fail
    go_ret
    exact ⟨rfl, Hb6.out.trans (Hb5.out.mono (by omega))⟩
  have q0 : T.toList.isEmpty = false := (emB_eq T).trans he
  have hne : textL ((n2 : Int) + 1) (3, 0, 0, ⟨#[120]⟩, ⟨#[121]⟩) ≠ [] := by
    rw [← HTL.out]
    intro h
    unfold emB at he
    rw [h] at he
    cases he
  have hfin : X6 = X ++ [(3, 0, 0, ⟨#[120]⟩, ⟨#[121]⟩)] ∧ why6 = 0 := by
    have hl := HL.out
    rw [← hl] at hne
    obtain ⟨m', hm⟩ := jf_more (r := (3, 0, 0, ⟨#[120]⟩, ⟨#[121]⟩)) HJ.out hne
    have e : (s ++ T ++ ⟨#[10]⟩ : ByteArray).data.toList = s.data.toList ++ (textL ((X.length : Int) + 1) (3, 0, 0, ⟨#[120]⟩, ⟨#[121]⟩) ++ [10]) := by
      rw [hl, ← HTL.out]; simp
    have h6 := HJ6.out
    rw [e, hm] at h6
    injection h6 with h1 h2
    injection h2 with h2 h3
    exact ⟨h1.symm, h3.symm⟩
  obtain ⟨hX6, rfl⟩ := hfin
  have hn6 : n6 = n2 + 1 := by have h1 := HL6.out; have h2 := HL.out; rw [hX6] at h1; simp at h1; omega
  subst hn6
  have hat : X6[n2]? = some (3, 0, 0, ⟨#[120]⟩, ⟨#[121]⟩) := by
    rw [hX6, List.getElem?_append_right (by have := HL.out; omega), HL.out, Nat.sub_self]; rfl
  obtain ⟨g, off, rfl, hg, hc⟩ := HR6.out.at' hat
  have hzc := rc5_later hc hg
  have hzq := HQ6.out.later5' (B := w6.heap.size) HQ6.out.lt
  have x0 := fun z => (hzc z).1
  have x1 := fun z => (hzc z).2.1
  have x2 := fun z => (hzc z).2.2.1
  have x3 := fun z => (hzc z).2.2.2.1
  have x4 := fun z => (hzc z).2.2.2.2
  have y0 := fun z => (hzq z).1
  have y1 := fun z => (hzq z).2.1
  have y2 := fun z => (hzq z).2.2.1
  have y3 := fun z => (hzq z).2.2.2.1
  have y4 := fun z => (hzq z).2.2.2.2
  simp only at x0 x1 x2 x3 x4
  have hi : (n2 : Int) < ((n2 + 1 : Nat) : Int) := by omega
  have hi2 : ((n2 + 1 : Nat) : Int) = (n2 : Int) + 1 := by omega
  clear he hne hX6 hat hc hzc hzq
  go_wp2_with fail
  refine wp_region_later (B := w6.heap.size) (by kernel_rfl) (by kernel_rfl) ?_
  repeat (go_big_quiet_step ((fail)))
  refine wpQuiet_nil ?_
  intro _ hw'
  obtain ⟨⟨w5, hb5⟩, hw''⟩ := hw'
  subst hw''
  have Hb5 := hide hb5
  clear hb5
  go_wp2_with fail
  go_ret
  exact ⟨rfl, Hb6.out.trans (Hb5.out.mono (by omega))⟩
end Go.Proofs.YtmofnmklodmkmaaGreatDoor
