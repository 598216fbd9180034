/- Walks of FnJournalWhy, FnJournalFrom, FnJournalOn. -/
import Derived.Test.YtmofnmklodmkmaaGreatDoorLJ2
import Derived.Test.YtmofnmklodmkmaaGreatDoorSameR
set_option linter.unusedVariables false
set_option linter.unusedSimpArgs false
namespace Go.Proofs.YtmofnmklodmkmaaGreatDoor
open Go.RowKit Go.BigFrame

set_option maxHeartbeats 1000000 in
set_option maxRecDepth 100000 in
theorem FnJournalWhy_walk (w : World) (A : Option Addr) (n c : Nat) (hc : Code w w.heap.size A n) (hnc : n ≤ c) (hm : n ≤ maxLen) (hV : Jw w) :
    Calls Tryz.prog 7 #[.slice A n c] w fun e w' => e = .returned (.bool true) ∧ Below w.heap.size w w' := by
  have HVw := hide hV
  clear hV
  by_cases h : 1048576 < n
  · unfold maxLen at hm
    go_enter Tryz.func7, Tryz.ntmps7
    go_wp2
    go_ret
    exact ⟨rfl, Below.refl _ _⟩
  go_enter Tryz.func7, Tryz.ntmps7
  go_wp2_with fail
  refine (d_JournalFrom A n c w hc hnc (by omega)).mono ?_
  rintro e w1 ⟨s, rfl, hs, hb1⟩
  have Hb1 := hide hb1
  have hz1 : w.heap.size ≤ w1.heap.size := hb1.size
  clear hc hb1
  go_wp2_with fail
  refine (i_JF s _ (by omega) (HVw.out.on Hb1.out)).mono ?_
  rintro e w2 ⟨v2, X, m, why, rfl, hj, hO2, hb2⟩
  obtain ⟨A2, n2, c2, rfl, hl2, hnc2, _, hR2⟩ := hO2.rcs
  have HJ := hide hj
  have HR2 := hide hR2
  have HL := hide hl2
  have Hb2 := hide (Hb1.out.trans (hb2.mono hz1))
  have hz2 : w1.heap.size ≤ w2.heap.size := hb2.size
  have hX30 : X.length ≤ 30 := (jf_text hj).2.2.2.2.1
  have hn2 : n2 ≤ 30 := by omega
  have hn2m : n2 ≤ maxLen := by unfold maxLen; omega
  clear hb2 hj hO2 hR2 hl2 hX30
  go_wp2_with fail
  refine (s_JF s _ (by omega)).mono ?_
  rintro e w3 ⟨v3, X3, m3, why3, rfl, hj, hO3, hb3⟩
  rw [HJ.out] at hj
  injection hj with e1 e2
  injection e2 with e2 e3
  subst e1 e2 e3
  obtain ⟨A3, n3, c3, rfl, _, _, _, hR3⟩ := hO3.rcs
  have HR3 := hide hR3
  have HA3 := hide (HR2.out.on hb3)
  have Hb3 := hide (Hb2.out.trans (hb3.mono (by omega)))
  have hz3 : w2.heap.size ≤ w3.heap.size := hb3.size
  clear hb3 hO3 hR3
  go_wp2_with fail
  refine (l_sameR _ HA3.out HR3.out hn2m).mono ?_
  rintro e w4 ⟨rfl, hb4⟩
  have Hb4 := hide (Hb3.out.trans (hb4.mono (by omega)))
  clear hb4
  obtain ⟨t1, _, t3, t4, _, _⟩ := jf_text HJ.out
  have hsl : s.data.toList.length = s.size := by simp
  rw [hsl] at t1 t3
  have t1' : (m : Int) ≤ (s.size : Int) := by omega
  by_cases hm : m = s.size
  · have hw0 : why = 0 := t3.2 hm
    subst hw0 hm
    clear t1 t3 t4 hsl
    go_wp2_with fail
    go_ret
    exact ⟨rfl, Hb4.out⟩
  · have hw0 : ¬ why = 0 := fun e => hm (t3.1 e)
    have hm' : ¬ (m : Int) = (s.size : Int) := by omega
    have q1 : (why == 0) = false := by simpa using hw0
    have q2 : ((m : Int) == (s.size : Int)) = false := by simpa using hm'
    clear t1 t3 t4 hsl
    go_wp2_with fail
    go_ret
    exact ⟨rfl, Hb4.out⟩

theorem Later.jt {B : Nat} {W : World} (z : Later B W) (A : Option Addr) (n c : Nat) (X : List Rec) (hX : Rcs W B A n X) (hS : RSmall X) (hn : n ≤ maxLen) (hB : B ≤ W.heap.size) (hT : ∀ z : Later B W, Tw z.it) :
    Calls Tryz.prog 11 #[.slice A n c] z.it fun e w'' => e = .returned (.string (tb (jl X))) ∧ ∃ z' : Later B W, w'' = z'.it :=
  Later.call ((i_JT A n c X z.it ((hX.below z.below).more (by have := z.below.size; omega)) hS hn (hT z)).mono fun e w' ⟨h1, h2⟩ => ⟨h1, h2.mono (by have := z.below.size; omega)⟩)
theorem jb_small {X : List Rec} (h : jB X = true) : RSmall X := fun a ha => by
  have h1 := (jB_iff.1 h).1 a ha
  have h0 : (ByteArray.mk #[]).size = 0 := rfl
  unfold maxLen
  rcases re_ways h1 with ⟨i, s, rfl, hi, hs⟩ | ⟨i, d, rfl, hi, hd⟩ | ⟨s, t, rfl | rfl, hs, ht, _⟩
  · have := (nvB_size hs).2
    exact ⟨by show s.size ≤ _; omega, by show (ByteArray.mk #[]).size ≤ _; omega⟩
  · exact ⟨by show (ByteArray.mk #[]).size ≤ _; omega, by show (ByteArray.mk #[]).size ≤ _; omega⟩
  · have := (nvB_size hs).2
    have := (nvB_size ht).2
    exact ⟨by show s.size ≤ _; omega, by show t.size ≤ _; omega⟩
  · have := (nvB_size hs).2
    have := (nvB_size ht).2
    exact ⟨by show s.size ≤ _; omega, by show t.size ≤ _; omega⟩

set_option maxHeartbeats 1000000 in
set_option maxRecDepth 100000 in
theorem FnJournalFrom_walk (w : World) (A : Option Addr) (n c : Nat) (hc : Code w w.heap.size A n) (hnc : n ≤ c) (hm : n ≤ maxLen) (hV : Jw w) :
    Calls Tryz.prog 6 #[.slice A n c] w fun e w' => e = .returned (.bool true) ∧ Below w.heap.size w w' := by
  have HVw := hide hV
  clear hV
  by_cases h : 1048576 < n
  · unfold maxLen at hm
    go_enter Tryz.func6, Tryz.ntmps6
    go_wp2
    go_ret
    exact ⟨rfl, Below.refl _ _⟩
  go_enter Tryz.func6, Tryz.ntmps6
  go_wp2_with fail
  refine (d_JournalFrom A n c w hc hnc (by omega)).mono ?_
  rintro e w1 ⟨s, rfl, hs, hb1⟩
  have Hb1 := hide hb1
  have hz1 : w.heap.size ≤ w1.heap.size := hb1.size
  clear hc hb1
  go_wp2_with fail
  refine (i_JF s _ (by omega) (HVw.out.on Hb1.out)).mono ?_
  rintro e w2 ⟨v2, X, m, why, rfl, hj, hO2, hb2⟩
  obtain ⟨A2, n2, c2, rfl, hl2, hnc2, _, hR2⟩ := hO2.rcs
  have HJ := hide hj
  have HR2 := hide hR2
  have HL := hide hl2
  have Hb2 := hide (Hb1.out.trans (hb2.mono hz1))
  have hz2 : w1.heap.size ≤ w2.heap.size := hb2.size
  have hX30 : X.length ≤ 30 := (jf_text hj).2.2.2.2.1
  have hn2 : n2 ≤ 30 := by omega
  have hn2m : n2 ≤ maxLen := by unfold maxLen; omega
  clear hb2 hj hO2 hR2 hl2 hX30
  go_wp2_with fail
  refine (s_JF s _ (by omega)).mono ?_
  rintro e w3 ⟨v3, X3, m3, why3, rfl, hj, hO3, hb3⟩
  rw [HJ.out] at hj
  injection hj with e1 e2
  injection e2 with e2 e3
  subst e1 e2 e3
  obtain ⟨A3, n3, c3, rfl, _, _, _, hR3⟩ := hO3.rcs
  have HR3 := hide hR3
  have HA3 := hide (HR2.out.on hb3)
  have Hb3 := hide (Hb2.out.trans (hb3.mono (by omega)))
  have hz3 : w2.heap.size ≤ w3.heap.size := hb3.size
  clear hb3 hO3 hR3
  go_wp2_with fail
  refine (l_sameR _ HA3.out HR3.out hn2m).mono ?_
  rintro e w4 ⟨rfl, hb4⟩
  have HA4 := hide (HA3.out.on hb4)
  have Hb4 := hide (Hb3.out.trans (hb4.mono (by omega)))
  have hz4 : w3.heap.size ≤ w4.heap.size := hb4.size
  clear hb4
  obtain ⟨t1, t2, _, _, _, t6⟩ := jf_text HJ.out
  have hsl : s.data.toList.length = s.size := by simp
  rw [hsl] at t1
  have t1' : (m : Int) ≤ (s.size : Int) := by omega
  have t0' : (0 : Int) ≤ (m : Int) := by omega
  have hS := hide (jb_small t6)
  have hE : s.extract 0 m = tb (jl X) := by
    apply ba_ext
    rw [ext_tb, tb_data, tb_data, List.drop_zero]
    exact t2
  have q1 : ((tb (jl X)).toList == (s.extract 0 m).toList) = true := by rw [beq_str]; simpa using hE.symm
  have HTz : Hid (∀ z : Later w4.heap.size w4, Tw z.it) := fun z => (HVw.out.on (Hb4.out.trans (z.below.mono (by omega)))).tw
  clear t2 t6 hsl hE
  go_wp2_with fail
  refine wp_region_later (B := w4.heap.size) (by kernel_rfl) (by kernel_rfl) ?_
  repeat (go_big_quiet_step ((first | (go_at_call 11; exact Later.jt _ A2 n2 c2 X HA4.out hS.out hn2m (Nat.le_refl _) HTz.out))))
  refine wpQuiet_nil ?_
  intro _ hw'
  obtain ⟨⟨w5, hb5⟩, hw''⟩ := hw'
  subst hw''
  have Hb5 := hide hb5
  clear hb5
  go_wp2_with fail
  go_ret
  exact ⟨rfl, Hb4.out.trans (Hb5.out.mono (by omega))⟩
end Go.Proofs.YtmofnmklodmkmaaGreatDoor
