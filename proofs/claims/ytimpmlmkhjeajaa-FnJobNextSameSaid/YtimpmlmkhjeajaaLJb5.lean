/- Walks of FnJobNext, FnJobNextSame, FnJobNextAll, FnJobNextOn. -/
import Derived.Test.YtimpmlmkhjeajaaZe
import Derived.Test.YtimpmlmkhjeajaaJn
import Derived.Test.YtimpmlmkhjeajaaDrawJ2
import Derived.Test.YtimpmlmkhjeajaaZl
import Derived.Test.YtimpmlmkhjeajaaZb
set_option linter.unusedVariables false
set_option linter.unusedSimpArgs false
namespace Go.Proofs.Ytimpmlmkhjeajaa
open Go.RowKit Go.BigFrame

theorem wpList_append_rd_g {P : Program} {ops : Array Oper} {rest : List Oper} {o : Oper} {a : Act} {w : World} {Q : Exit → Act → World → Prop} (hw : Region.wanted o (yielded ops a.tmps) = true) (s x : Operand) (t : TypeId)
    (ho : o.op = .call { callee := .builtin .append, args := #[s, x], argTypes := #[t, t] })
    (base : Nat) (e : TypeId) (i : TypeInfo) (z : Value) (size bytes : Nat) (ht : P.underlying t = some (.slice e)) (hi : P.info? e = some i) (hz : i.zero = some z)
    (hsize : i.size = size) (hby : i.bytes = bytes) (hzs : z.cells.size = size) (hsz : 0 < size)
    (v : Value) (n : Nat) (xs : List Value) (hs : a.eval s = v) (hown : w.ownsRow base e size v n xs)
    (B : Nat) (A : Option Addr) (m c : Nat) (news : List Value) (hx : a.eval x = .slice A m c) (hr : Rd w B size A m news) (h1 : ∀ u ∈ news, u.oneCell' = true)
    (h63 : n + m ≤ maxLen) (hbytes : (n + m) * bytes ≤ 140737488355328) (hbase : base ≤ w.heap.size)
    (h : ∀ v' w', w'.ownsRow base e size v' (n + m) (xs ++ news) → w.grownBy w' v.ownBlock → (v'.ownBlock = v.ownBlock ∨ v'.ownBlock = some w.heap.size) → wpList P ops Q rest (a.put o.dst v') w') : wpList P ops Q (o :: rest) a w :=
  wpList_step fun K hK => by
    rw [if_pos hw]
    exact wp_append_rd w s x t ho base e i z size bytes ht hi hz hsize hby hzs hsz v n xs hs hown B A m c news hx hr h1 h63 hbytes hbase fun v' w' h2 h3 h4 => hK _ _ (h v' w' h2 h3 h4)

set_option maxHeartbeats 2000000 in
set_option maxRecDepth 100000 in
theorem FnJobNextOn_walk (w : World) (A : Option Addr) (n c : Nat) (hc : Code w w.heap.size A n) (hnc : n ≤ c) (hm : n ≤ maxLen) (A0 : Option Addr) (n0 c0 : Nat) (hc0 : Code w w.heap.size A0 n0) (hnc0 : n0 ≤ c0) (hm0 : n0 ≤ maxLen) :
    Calls Try.prog 6 #[.slice A n c, .slice A0 n0 c0] w fun e w' => e = .returned (.bool true) ∧ Below w.heap.size w w' := by
  by_cases h : 1048576 < n
  · unfold maxLen at hm hm0
    go_enter Try.func6, Try.ntmps6
    go_wp2
    go_ret
    exact ⟨rfl, Below.refl _ _⟩
  by_cases h0 : 1048576 < n0
  · unfold maxLen at hm hm0
    go_enter Try.func6, Try.ntmps6
    go_wp2
    go_ret
    exact ⟨rfl, Below.refl _ _⟩
  go_enter Try.func6, Try.ntmps6
  go_wp2_with fail
  refine (d_JobNext A n c w hc hnc (by omega)).mono ?_
  rintro e w1 ⟨i, d, A1, n1, c1, L, m, rfl, hdr, hm1, hm2⟩
  have HdJ := hide hdr.jd
  have Hsm := hide hdr.small.1
  have hnc1 := hdr.nc
  have hn13 : n1 ≤ 13 := hdr.small.2
  have Hn1 : Hid (n1 ≤ maxLen) := by show n1 ≤ maxLen; unfold maxLen; omega
  have HJ1 := hide (JVar.new (i := i) (d := d) (c := c1) hdr.st)
  have Hb1 := hide (below_new (e := 28) (cs := #[.int .i64 i, .slice A1 n1 c1, .int .i64 d]) hdr.below (Nat.le_refl _))
  obtain ⟨a10, a11, a12⟩ := HJ1.out.cells
  have hl := hide hdr.st.1
  clear hdr hc
  cases hj : jNextM (i, L, d) m with
  | none =>
    have HJ := hide hj
    clear hj
    go_wp2_with fail
    refine (i_JobNext i d m A1 n1 c1 L _ HJ1.out.st Hsm.out Hn1.out hnc1).mono ?_
    intro e w2 ho
    rw [HJ.out] at ho
    obtain ⟨A2, n2, c2, B2, m2, d2, rfl, h1, h2, h3, h4, hst2, hsj2, hb2⟩ := own3_n ho
    have HO2 := hide (JVar.new (i := 0) (d := 0) (c := d2) hsj2)
    have HN2 := hide (hst2.on' (on_new w2 28 #[.int .i64 0, .slice B2 m2 d2, .int .i64 0]))
    have HJ2 := hide ((HJ1.out.on hb2).on (on_new w2 28 #[.int .i64 0, .slice B2 m2 d2, .int .i64 0]))
    have Hb2 := hide (below_new (e := 28) (cs := #[.int .i64 0, .slice B2 m2 d2, .int .i64 0]) (below_on Hb1.out (Nat.le_refl _) hb2) (Nat.le_refl _))
    have Hl2 := hide (And.intro (Nat.le_trans h1 h2) (Nat.le_trans h3 h4))
    obtain ⟨b10, b11, b12⟩ := HJ2.out.cells
    clear ho hst2 hsj2 hb2 h1 h2 h3 h4
    go_wp2_with fail
    refine (s_JobNext i d m A1 n1 c1 L _ HJ2.out.st Hsm.out Hn1.out hnc1).mono ?_
    intro e w3 ho
    rw [HJ.out] at ho
    obtain ⟨A3, n3, c3, B3, m3, d3, rfl, h1, h2, h3, h4, hst3, hsj3, hb3⟩ := own3_n ho
    have HO3 := hide (JVar.new (i := 0) (d := 0) (c := d3) hsj3)
    have HM3 := hide (hst3.on' (on_new w3 28 #[.int .i64 0, .slice B3 m3 d3, .int .i64 0]))
    have HN3 := hide ((HN2.out.on' hb3).on' (on_new w3 28 #[.int .i64 0, .slice B3 m3 d3, .int .i64 0]))
    have HP3 := hide ((HO2.out.on hb3).on (on_new w3 28 #[.int .i64 0, .slice B3 m3 d3, .int .i64 0]))
    have Hb3 := hide (below_new (e := 28) (cs := #[.int .i64 0, .slice B3 m3 d3, .int .i64 0]) (below_on Hb2.out (Nat.le_refl _) hb3) (Nat.le_refl _))
    have Hl3 := hide (And.intro (Nat.le_trans h1 h2) (Nat.le_trans h3 h4))
    clear ho hst3 hsj3 hb3 h1 h2 h3 h4
    go_wp2_with fail
    refine (l_same_t A2 n2 c2 A3 n3 c3 [] _ HN3.out HM3.out Hl2.out.1 Hl3.out.1).mono ?_
    rintro e w4 ⟨rfl, q4, e4⟩
    have hb4 : Below (w3.alloc (.cells #[.int .i64 0, .slice B3 m3 d3, .int .i64 0] 28)).heap.size (w3.alloc (.cells #[.int .i64 0, .slice B3 m3 d3, .int .i64 0] 28)) w4 := by rw [e4]; exact below_drewN' _ _ _
    have HP4 := hide (HP3.out.on hb4)
    have HQ4 := hide (HO3.out.on hb4)
    have HN4 := hide (HN3.out.on' hb4)
    have HM4 := hide (HM3.out.on' hb4)
    have Hb4 := hide (below_on Hb3.out (Nat.le_refl _) hb4)
    obtain ⟨p40, p41, p42⟩ := HP4.out.cells
    obtain ⟨q40, q41, q42⟩ := HQ4.out.cells
    clear e4 hb4
    go_wp2_with fail
    refine (l_sameJ 0 0 B2 m2 d2 B3 m3 d3 [] _ HP4.out.st HQ4.out.st Hl2.out.2 Hl3.out.2).mono ?_
    rintro e w5 ⟨rfl, hb5⟩
    have HN5 := hide (HN4.out.on' hb5)
    have HM5 := hide (HM4.out.on' hb5)
    have HP5 := hide (HP4.out.on hb5)
    have HQ5 := hide (HQ4.out.on hb5)
    have Hb5 := hide (below_on Hb4.out (Nat.le_refl _) hb5)
    clear hb5
    go_wp2_with fail
    refine (l_same_t A2 n2 c2 A3 n3 c3 [] _ HN5.out HM5.out Hl2.out.1 Hl3.out.1).mono ?_
    rintro e w6 ⟨rfl, q6, e6⟩
    have hb6 : Below w5.heap.size w5 w6 := by rw [e6]; exact below_drewN' _ _ _
    have HP6 := hide (HP5.out.on hb6)
    have HQ6 := hide (HQ5.out.on hb6)
    have Hb6 := hide (below_on Hb5.out (Nat.le_refl _) hb6)
    obtain ⟨p60, p61, p62⟩ := HP6.out.cells
    obtain ⟨q60, q61, q62⟩ := HQ6.out.cells
    clear e6 hb6
    go_wp2_with fail
    refine (l_sameJ 0 0 B2 m2 d2 B3 m3 d3 [] _ HP6.out.st HQ6.out.st Hl2.out.2 Hl3.out.2).mono ?_
    rintro e w7 ⟨rfl, hb7⟩
    have Hb7 := hide (below_on Hb6.out (Nat.le_refl _) hb7)
    clear hb7
    go_wp2_with fail
    go_ret
    exact ⟨rfl, Hb7.out⟩
  | some r =>
    obtain ⟨N, x1, x2, x3⟩ := r
    have HJ := hide hj
    have HF := hide (jNext_some hj)
    clear hj
    go_wp2_with fail
    refine (i_JobNext i d m A1 n1 c1 L _ HJ1.out.st Hsm.out Hn1.out hnc1).mono ?_
    intro e w2 ho
    rw [HJ.out] at ho
    obtain ⟨A2, n2, c2, B2, m2, d2, rfl, h1, h2, h3, h4, hst2, hsj2, hb2⟩ := own3_s ho
    have HO2 := hide (JVar.new (i := x1) (d := x3) (c := d2) hsj2)
    have HN2 := hide (hst2.on' (on_new w2 28 #[.int .i64 x1, .slice B2 m2 d2, .int .i64 x3]))
    have HJ2 := hide ((HJ1.out.on hb2).on (on_new w2 28 #[.int .i64 x1, .slice B2 m2 d2, .int .i64 x3]))
    have Hb2 := hide (below_new (e := 28) (cs := #[.int .i64 x1, .slice B2 m2 d2, .int .i64 x3]) (below_on Hb1.out (Nat.le_refl _) hb2) (Nat.le_refl _))
    have Hl2 := hide (And.intro (Nat.le_trans h1 h2) (Nat.le_trans h3 h4))
    have hmd2 := h3
    have hnc2 := h1
    obtain ⟨b10, b11, b12⟩ := HJ2.out.cells
    clear ho hst2 hsj2 hb2 h1 h2 h3 h4
    go_wp2_with fail
    refine (s_JobNext i d m A1 n1 c1 L _ HJ2.out.st Hsm.out Hn1.out hnc1).mono ?_
    intro e w3 ho
    rw [HJ.out] at ho
    obtain ⟨A3, n3, c3, B3, m3, d3, rfl, h1, h2, h3, h4, hst3, hsj3, hb3⟩ := own3_s ho
    have HO3 := hide (JVar.new (i := x1) (d := x3) (c := d3) hsj3)
    have HM3 := hide (hst3.on' (on_new w3 28 #[.int .i64 x1, .slice B3 m3 d3, .int .i64 x3]))
    have HN3 := hide ((HN2.out.on' hb3).on' (on_new w3 28 #[.int .i64 x1, .slice B3 m3 d3, .int .i64 x3]))
    have HP3 := hide ((HO2.out.on hb3).on (on_new w3 28 #[.int .i64 x1, .slice B3 m3 d3, .int .i64 x3]))
    have HJ3 := hide ((HJ2.out.on hb3).on (on_new w3 28 #[.int .i64 x1, .slice B3 m3 d3, .int .i64 x3]))
    have Hb3 := hide (below_new (e := 28) (cs := #[.int .i64 x1, .slice B3 m3 d3, .int .i64 x3]) (below_on Hb2.out (Nat.le_refl _) hb3) (Nat.le_refl _))
    have Hl3 := hide (And.intro (Nat.le_trans h1 h2) (Nat.le_trans h3 h4))
    clear ho hst3 hsj3 hb3 h1 h2 h3 h4
    go_wp2_with fail
    refine (l_same_t A2 n2 c2 A3 n3 c3 N _ HN3.out HM3.out Hl2.out.1 Hl3.out.1).mono ?_
    rintro e w4 ⟨rfl, q4, e4⟩
    have hb4 : Below (w3.alloc (.cells #[.int .i64 x1, .slice B3 m3 d3, .int .i64 x3] 28)).heap.size (w3.alloc (.cells #[.int .i64 x1, .slice B3 m3 d3, .int .i64 x3] 28)) w4 := by rw [e4]; exact below_drewN' _ _ _
    have HP4 := hide (HP3.out.on hb4)
    have HQ4 := hide (HO3.out.on hb4)
    have HJ4 := hide (HJ3.out.on hb4)
    have HN4 := hide (HN3.out.on' hb4)
    have Hb4 := hide (below_on Hb3.out (Nat.le_refl _) hb4)
    obtain ⟨p40, p41, p42⟩ := HP4.out.cells
    obtain ⟨q40, q41, q42⟩ := HQ4.out.cells
    clear e4 hb4
    go_wp2_with fail
    refine (l_sameJ x1 x3 B2 m2 d2 B3 m3 d3 x2 _ HP4.out.st HQ4.out.st Hl2.out.2 Hl3.out.2).mono ?_
    rintro e w5 ⟨rfl, hb5⟩
    have HN5 := hide (HN4.out.on' hb5)
    have HP5 := hide (HP4.out.on hb5)
    have HJ5 := hide (HJ4.out.on hb5)
    have Hb5 := hide (below_on Hb4.out (Nat.le_refl _) hb5)
    obtain ⟨j50, j51, j52⟩ := HJ5.out.cells
    obtain ⟨p50, p51, p52⟩ := HP5.out.cells
    have hln2 := hide HN5.out.1
    have hlx2 := hide HP5.out.st.1
    clear hb5 p40 p41 p42 q40 q41 q42 b10 b11 b12 a10 a11 a12
    have hF := HF.out
    have hm3 : 0 ≤ m := hF.m
    have hNl : Hid (N.length ≤ n1) := by
      have a := hF.len
      have b := jEnd_le (i, L, d) m
      have c := hl.out
      simp only at b
      show N.length ≤ n1
      omega
    have hk0 : 0 ≤ (n0 : Int) % (m + 1) := Int.emod_nonneg _ (by omega)
    have hk1 : (n0 : Int) % (m + 1) ≤ m := by have := Int.emod_lt_of_pos (n0 : Int) (show 0 < m + 1 by omega); omega
    obtain ⟨⟨y1, y2, y3⟩, M, t1, t2, t3⟩ := hF.parts hk0 hk1
    have hy := (jNext_some t1).same.2.1
    simp only at hy
    subst hy
    generalize hR : jNms (i, y2, d) ((n0 : Int) % (m + 1)) = R at *
    have HT1 := hide t1
    have HT2 := hide t2
    have HT3 := hide t3
    have Hk0 := hide hk0
    have Hk1 := hide hk1
    clear hF t1 t2 t3 hk0 hk1 hR
    go_wp2_with fail
    have hk0 := Hk0.out
    have hk1 := Hk1.out
    clear Hk0 Hk1
    generalize (n0 : Int) % (m + 1) = k at *
    refine (i_JobNext i d k A1 n1 c1 y2 _ HJ5.out.st Hsm.out Hn1.out hnc1).mono ?_
    intro e w6 ho
    rw [HT1.out] at ho
    obtain ⟨A6, n6, c6, B6, m6, d6, rfl, h1, h2, h3, h4, hst6, hsj6, hb6⟩ := own3_s ho
    have hmd6 := h3
    have HO6 := hide (JVar.new (i := y1) (d := y3) (c := d6) hsj6)
    have HZ6 := hide (hst6.on' (on_new w6 28 #[.int .i64 y1, .slice B6 m6 d6, .int .i64 y3]))
    have HN6 := hide ((HN5.out.on' hb6).on' (on_new w6 28 #[.int .i64 y1, .slice B6 m6 d6, .int .i64 y3]))
    have HP6 := hide ((HP5.out.on hb6).on (on_new w6 28 #[.int .i64 y1, .slice B6 m6 d6, .int .i64 y3]))
    have Hb6 := hide (below_new (e := 28) (cs := #[.int .i64 y1, .slice B6 m6 d6, .int .i64 y3]) (below_on Hb5.out (Nat.le_refl _) hb6) (Nat.le_refl _))
    have Hl6 := hide (And.intro (Nat.le_trans h1 h2) (Nat.le_trans h3 h4))
    obtain ⟨o60, o61, o62⟩ := HO6.out.cells
    clear ho hst6 hsj6 hb6 h1 h2 h3 h4 j50 j51 j52 p50 p51 p52
    go_wp2_with fail
    refine (i_JobNext y1 y3 (m - k) B6 m6 d6 y2 _ HO6.out.st Hsm.out Hl6.out.2 hmd6).mono ?_
    intro e w7 ho
    rw [HT2.out] at ho
    obtain ⟨A7, n7, c7, B7, m7, d7, rfl, h1, h2, h3, h4, hst7, hsj7, hb7⟩ := own3_s ho
    have HO7 := hide (JVar.new (i := x1) (d := x3) (c := d7) hsj7)
    have HW7 := hide (hst7.on' (on_new w7 28 #[.int .i64 x1, .slice B7 m7 d7, .int .i64 x3]))
    have HZ7 := hide ((HZ6.out.on' hb7).on' (on_new w7 28 #[.int .i64 x1, .slice B7 m7 d7, .int .i64 x3]))
    have HN7 := hide ((HN6.out.on' hb7).on' (on_new w7 28 #[.int .i64 x1, .slice B7 m7 d7, .int .i64 x3]))
    have HP7 := hide ((HP6.out.on hb7).on (on_new w7 28 #[.int .i64 x1, .slice B7 m7 d7, .int .i64 x3]))
    have Hb7 := hide (below_new (e := 28) (cs := #[.int .i64 x1, .slice B7 m7 d7, .int .i64 x3]) (below_on Hb6.out (Nat.le_refl _) hb7) (Nat.le_refl _))
    have Hl7 := hide (And.intro (Nat.le_trans h1 h2) (Nat.le_trans h3 h4))
    obtain ⟨o70, o71, o72⟩ := HO7.out.cells
    obtain ⟨p70, p71, p72⟩ := HP7.out.cells
    clear ho hst7 hsj7 hb7 h1 h2 h3 h4 o60 o61 o62
    go_wp2_with fail
    refine (l_sameJ x1 x3 B7 m7 d7 B2 m2 d2 x2 _ HO7.out.st HP7.out.st Hl7.out.2 Hl2.out.2).mono ?_
    rintro e w8 ⟨rfl, hb8⟩
    have HW8 := hide (HW7.out.on' hb8)
    have HZ8 := hide (HZ7.out.on' hb8)
    have HN8 := hide (HN7.out.on' hb8)
    have Hb8 := hide (below_on Hb7.out (Nat.le_refl _) hb8)
    obtain ⟨i0, hi0, hz0, hz1, hz2⟩ := info_parts str_info
    have hU := Try.underlying26
    have own0 := hide (World.ownsRow_lit (size := 1) (e := 9) (base := w8.heap.size) w8 #[] 0 (Nat.le_refl _) (Nat.zero_le _) rfl)
    have src1 := hide ((Rd.of_strs HZ8.out).alloc (Nat.le_refl _) (.cells #[] 9))
    have hsum : n6 + n7 ≤ 13 := by
      have a := HZ8.out.1
      have b := HW8.out.1
      have c := congrArg List.length HT3.out
      rw [List.length_append] at c
      have e := hNl.out
      omega
    have Hsum := hide hsum
    have b1 : Hid (0 + n6 ≤ maxLen ∧ (0 + n6) * 16 ≤ 140737488355328) := by show _ ∧ _; unfold maxLen; omega
    have b2 : Hid (0 + n6 + n7 ≤ maxLen ∧ (0 + n6 + n7) * 16 ≤ 140737488355328) := by show _ ∧ _; unfold maxLen; omega
    have Hs67 : Hid (n6 + n7 ≤ maxLen) := by show _ ≤ maxLen; unfold maxLen; omega
    clear hb8 o70 o71 o72 p70 p71 p72 hsum
    go_wp2_with (first
      | (at_builtin
         refine wpList_append_rd_g rfl (.tmp 110) (.tmp 111) _ rfl w8.heap.size 9 i0 _ 1 16 hU hi0 hz0 hz1 hz2 rfl (by omega) _ 0 [] rfl own0.out w8.heap.size A6 n6 _ (R.map Value.string) rfl src1.out (one_strs _) b1.out.1 b1.out.2 (by simp) ?_
         intro v9 w9 own9 gr9 at9
         have hb9 : Below w8.heap.size w8 w9 := Below.own ((Below.refl _ _).alloc (Nat.le_refl _) _) gr9 own0.out (Nat.le_refl _) (by simp)
         have Own9 := hide own9
         have Src2 := hide (Rd.of_strs (HW8.out.below hb9))
         have Hb9 := hide hb9
         clear own9 gr9 at9 hb9)
      | (at_builtin
         refine wpList_append_rd_g rfl (.tmp 112) (.tmp 113) _ rfl w8.heap.size 9 i0 _ 1 16 hU hi0 hz0 hz1 hz2 rfl (by omega) _ (0 + n6) _ rfl Own9.out w8.heap.size A7 n7 _ (M.map Value.string) rfl Src2.out (one_strs _) b2.out.1 b2.out.2 Hb9.out.size ?_
         intro v10 w10 own10 gr10 at10
         have hb10 : Below w8.heap.size w8 w10 := Below.own Hb9.out gr10 Own9.out (Nat.le_refl _) Hb9.out.size
         rw [List.nil_append, ← List.map_append, HT3.out, Nat.zero_add] at own10
         obtain ⟨A10, c10, e10⟩ := own_slice own10
         subst e10
         have HS10 := hide (Strs.of_own own10)
         have HN10 := hide (HN8.out.on' hb10)
         have Hb10 := hide (below_on Hb8.out (Nat.le_refl _) hb10)
         clear own10 gr10 at10 hb10)
      | fail)
    refine (l_same_t A10 (n6 + n7) c10 A2 n2 c2 N _ HS10.out HN10.out Hs67.out Hl2.out.1).mono ?_
    rintro e w11 ⟨rfl, q11, e11⟩
    have hb11 : Below w10.heap.size w10 w11 := by rw [e11]; exact below_drewN' _ _ _
    have Hb11 := hide (below_on Hb10.out (Nat.le_refl _) hb11)
    clear e11 hb11
    go_wp2_with fail
    go_ret
    exact ⟨rfl, Hb11.out⟩
end Go.Proofs.Ytimpmlmkhjeajaa
