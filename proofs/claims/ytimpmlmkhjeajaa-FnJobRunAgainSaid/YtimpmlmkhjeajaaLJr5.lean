/- Walks of FnJobRunAgain. -/
import Derived.Test.YtimpmlmkhjeajaaZe
import Derived.Test.YtimpmlmkhjeajaaJn
import Derived.Test.YtimpmlmkhjeajaaDrawJ2
import Derived.Test.YtimpmlmkhjeajaaZl
import Derived.Test.YtimpmlmkhjeajaaZb
import Derived.Test.YtimpmlmkhjeajaaZh
import Derived.Test.YtimpmlmkhjeajaaZc
import Derived.Deep.RegionHeld3
set_option linter.unusedVariables false
set_option linter.unusedSimpArgs false
namespace Go.Proofs.Ytimpmlmkhjeajaa
open Go.RowKit Go.BigFrame



theorem later_has {B : Nat} {w : World} (A : Option Addr) (n c : Nat) (L : List ByteArray) (s : ByteArray) (z : Later B w) (hL : Strs z.it z.it.heap.size A n L) (hn : n ≤ maxLen) (b : Bool) (hb : memB L s = b) :
    Calls Try.prog 37 #[.slice A n c, .string s] z.it fun e w'' => e = .returned (.bool b) ∧ ∃ z' : Later B w, w'' = z'.it := by
  subst hb
  exact Later.same (l_has A n c L s z.it hL hn)

set_option maxHeartbeats 1000000 in
set_option maxRecDepth 100000 in
theorem FnJobRunOthers_walk (w : World) (A : Option Addr) (n c : Nat) (hc : Code w w.heap.size A n) (hnc : n ≤ c) (hm : n ≤ maxLen) :
    Calls Try.prog 8 #[.slice A n c] w fun e w' => e = .returned (.bool true) ∧ Below w.heap.size w w' := by
  by_cases h : 1048576 < n
  · unfold maxLen at hm
    go_enter Try.func8, Try.ntmps8
    go_wp2
    go_ret
    exact ⟨rfl, Below.refl _ _⟩
  go_enter Try.func8, Try.ntmps8
  go_wp2_with fail
  refine (d_JobRun A n c w hc hnc (by omega)).mono ?_
  rintro e w1 ⟨v, X, i, d, A1, n1, c1, L, m, rfl, ⟨AX, nX, cX, rfl, hbx, hncX, hcX, hbd, hbb⟩, hdr, hm1, hm2⟩
  have HX1 := hide (hbx.on (on_new w1 28 #[.int .i64 i, .slice A1 n1 c1, .int .i64 d]))
  have Hsx := hide hbd.small
  have Hn0 : Hid (nX ≤ maxLen) := Nat.le_trans hncX hcX
  have HdJ := hide hdr.jd
  have Hsm := hide hdr.small.1
  have hnc1 := hdr.nc
  have hn13 : n1 ≤ 13 := hdr.small.2
  have Hn1 : Hid (n1 ≤ maxLen) := by show n1 ≤ maxLen; unfold maxLen; omega
  have HJ1 := hide (JVar.new (i := i) (d := d) (c := c1) hdr.st)
  obtain ⟨a10, a11, a12⟩ := HJ1.out.cells
  have Hb1 := hide (below_new (e := 28) (cs := #[.int .i64 i, .slice A1 n1 c1, .int .i64 d]) hbb (Nat.le_refl _))
  have hl := hide hdr.st.1
  clear hdr hc hbx hbd hbb
  cases hj : jRunM X (i, L, d) m with
  | none =>
    have HJ := hide hj
    clear hj
    go_wp2_with fail
    refine (i_JobRun AX nX cX X i d m A1 n1 c1 L _ HX1.out Hsx.out Hn0.out HJ1.out.st Hsm.out Hn1.out hnc1).mono ?_
    intro e w2 ho
    rw [HJ.out] at ho
    obtain ⟨A2, n2, c2, B2, m2, d2, rfl, h1, h2, h3, h4, hst2, hsj2, hb2⟩ := own3_rn ho
    have hmd2 := h3
    have HO2 := hide (JVar.new (i := 0) (d := 0) (c := d2) hsj2)
    have HY2 := hide (hst2.on (on_new w2 28 #[.int .i64 0, .slice B2 m2 d2, .int .i64 0]))
    have HX2 := hide ((HX1.out.on hb2).on (on_new w2 28 #[.int .i64 0, .slice B2 m2 d2, .int .i64 0]))
    have HJ2 := hide ((HJ1.out.on hb2).on (on_new w2 28 #[.int .i64 0, .slice B2 m2 d2, .int .i64 0]))
    have Hb2 := hide (below_new (e := 28) (cs := #[.int .i64 0, .slice B2 m2 d2, .int .i64 0]) (below_on Hb1.out (Nat.le_refl _) hb2) (Nat.le_refl _))
    have Hl2 := hide (And.intro (Nat.le_trans h1 h2) (Nat.le_trans h3 h4))
    obtain ⟨b10, b11, b12⟩ := HJ2.out.cells
    clear ho hst2 hsj2 hb2 h1 h2 h3 h4
    go_wp2_with fail
    refine (s_JobRun AX nX cX X i d m A1 n1 c1 L _ HX2.out Hsx.out Hn0.out HJ2.out.st Hsm.out Hn1.out hnc1).mono ?_
    intro e w3 ho
    rw [HJ.out] at ho
    obtain ⟨A3, n3, c3, B3, m3, d3, rfl, h1, h2, h3, h4, hst3, hsj3, hb3⟩ := own3_rn ho
    have HO3 := hide (JVar.new (i := 0) (d := 0) (c := d3) hsj3)
    have HZ3 := hide (hst3.on (on_new w3 28 #[.int .i64 0, .slice B3 m3 d3, .int .i64 0]))
    have HY3 := hide ((HY2.out.on hb3).on (on_new w3 28 #[.int .i64 0, .slice B3 m3 d3, .int .i64 0]))
    have HX3 := hide ((HX2.out.on hb3).on (on_new w3 28 #[.int .i64 0, .slice B3 m3 d3, .int .i64 0]))
    have HP3 := hide ((HO2.out.on hb3).on (on_new w3 28 #[.int .i64 0, .slice B3 m3 d3, .int .i64 0]))
    have HJ3 := hide ((HJ2.out.on hb3).on (on_new w3 28 #[.int .i64 0, .slice B3 m3 d3, .int .i64 0]))
    have Hb3 := hide (below_new (e := 28) (cs := #[.int .i64 0, .slice B3 m3 d3, .int .i64 0]) (below_on Hb2.out (Nat.le_refl _) hb3) (Nat.le_refl _))
    have Hl3 := hide (And.intro (Nat.le_trans h1 h2) (Nat.le_trans h3 h4))
    obtain ⟨p30, p31, p32⟩ := HP3.out.cells
    obtain ⟨q30, q31, q32⟩ := HO3.out.cells
    clear ho hst3 hsj3 hb3 h1 h2 h3 h4
    go_wp2_with fail
    refine (l_sameJ 0 0 B2 m2 d2 B3 m3 d3 [] _ HP3.out.st HO3.out.st Hl2.out.2 Hl3.out.2).mono ?_
    rintro e w4 ⟨rfl, hb4⟩
    have HP4 := hide (HP3.out.on hb4)
    have HQ4 := hide (HO3.out.on hb4)
    have HJ4 := hide (HJ3.out.on hb4)
    have HX4 := hide (HX3.out.on hb4)
    have HY4 := hide (HY3.out.on hb4)
    have HZ4 := hide (HZ3.out.on hb4)
    have Hb4 := hide (below_on Hb3.out (Nat.le_refl _) hb4)
    clear hb4
    go_wp2_with fail
    refine (l_sameBs A2 n2 c2 A3 n3 c3 [] _ HY4.out HZ4.out Hl2.out.1).mono ?_
    rintro e w5 ⟨rfl, hb5⟩
    have HP5 := hide (HP4.out.on hb5)
    have HQ5 := hide (HQ4.out.on hb5)
    have HJ5 := hide (HJ4.out.on hb5)
    have HX5 := hide (HX4.out.on hb5)
    have HY5 := hide (HY4.out.on hb5)
    have HZ5 := hide (HZ4.out.on hb5)
    have Hb5 := hide (below_on Hb4.out (Nat.le_refl _) hb5)
    obtain ⟨j50, j51, j52⟩ := HJ5.out.cells
    obtain ⟨p50, p51, p52⟩ := HP5.out.cells
    obtain ⟨q50, q51, q52⟩ := HQ5.out.cells
    clear hb5 p30 p31 p32 q30 q31 q32 b10 b11 b12 a10 a11 a12
    go_wp2_with fail
    refine (l_sameJ 0 0 B2 m2 d2 B3 m3 d3 [] _ HP5.out.st HQ5.out.st Hl2.out.2 Hl3.out.2).mono ?_
    rintro e w6 ⟨rfl, hb6⟩
    have HY6 := hide (HY5.out.on hb6)
    have HZ6 := hide (HZ5.out.on hb6)
    have Hb6 := hide (below_on Hb5.out (Nat.le_refl _) hb6)
    clear hb6 p50 p51 p52 q50 q51 q52 j50 j51 j52
    go_wp2_with fail
    refine (l_sameBs A2 n2 c2 A3 n3 c3 [] _ HY6.out HZ6.out Hl2.out.1).mono ?_
    rintro e w7 ⟨rfl, hb7⟩
    have Hb7 := hide (below_on Hb6.out (Nat.le_refl _) hb7)
    clear hb7
    go_wp2_with fail
    go_ret
    exact ⟨rfl, Hb7.out⟩
  | some r =>
    obtain ⟨O, x1, x2, x3⟩ := r
    have HJ := hide hj
    have HF := hide (jRun_some hj)
    clear hj
    go_wp2_with fail
    refine (i_JobRun AX nX cX X i d m A1 n1 c1 L _ HX1.out Hsx.out Hn0.out HJ1.out.st Hsm.out Hn1.out hnc1).mono ?_
    intro e w2 ho
    rw [HJ.out] at ho
    obtain ⟨A2, n2, c2, B2, m2, d2, rfl, h1, h2, h3, h4, hst2, hsj2, hb2⟩ := own3_rs ho
    have hmd2 := h3
    have HO2 := hide (JVar.new (i := x1) (d := x3) (c := d2) hsj2)
    have HY2 := hide (hst2.on (on_new w2 28 #[.int .i64 x1, .slice B2 m2 d2, .int .i64 x3]))
    have HX2 := hide ((HX1.out.on hb2).on (on_new w2 28 #[.int .i64 x1, .slice B2 m2 d2, .int .i64 x3]))
    have HJ2 := hide ((HJ1.out.on hb2).on (on_new w2 28 #[.int .i64 x1, .slice B2 m2 d2, .int .i64 x3]))
    have Hb2 := hide (below_new (e := 28) (cs := #[.int .i64 x1, .slice B2 m2 d2, .int .i64 x3]) (below_on Hb1.out (Nat.le_refl _) hb2) (Nat.le_refl _))
    have Hl2 := hide (And.intro (Nat.le_trans h1 h2) (Nat.le_trans h3 h4))
    obtain ⟨b10, b11, b12⟩ := HJ2.out.cells
    clear ho hst2 hsj2 hb2 h1 h2 h3 h4
    go_wp2_with fail
    refine (s_JobRun AX nX cX X i d m A1 n1 c1 L _ HX2.out Hsx.out Hn0.out HJ2.out.st Hsm.out Hn1.out hnc1).mono ?_
    intro e w3 ho
    rw [HJ.out] at ho
    obtain ⟨A3, n3, c3, B3, m3, d3, rfl, h1, h2, h3, h4, hst3, hsj3, hb3⟩ := own3_rs ho
    have HO3 := hide (JVar.new (i := x1) (d := x3) (c := d3) hsj3)
    have HZ3 := hide (hst3.on (on_new w3 28 #[.int .i64 x1, .slice B3 m3 d3, .int .i64 x3]))
    have HY3 := hide ((HY2.out.on hb3).on (on_new w3 28 #[.int .i64 x1, .slice B3 m3 d3, .int .i64 x3]))
    have HX3 := hide ((HX2.out.on hb3).on (on_new w3 28 #[.int .i64 x1, .slice B3 m3 d3, .int .i64 x3]))
    have HP3 := hide ((HO2.out.on hb3).on (on_new w3 28 #[.int .i64 x1, .slice B3 m3 d3, .int .i64 x3]))
    have HJ3 := hide ((HJ2.out.on hb3).on (on_new w3 28 #[.int .i64 x1, .slice B3 m3 d3, .int .i64 x3]))
    have Hb3 := hide (below_new (e := 28) (cs := #[.int .i64 x1, .slice B3 m3 d3, .int .i64 x3]) (below_on Hb2.out (Nat.le_refl _) hb3) (Nat.le_refl _))
    have Hl3 := hide (And.intro (Nat.le_trans h1 h2) (Nat.le_trans h3 h4))
    obtain ⟨p30, p31, p32⟩ := HP3.out.cells
    obtain ⟨q30, q31, q32⟩ := HO3.out.cells
    clear ho hst3 hsj3 hb3 h1 h2 h3 h4
    go_wp2_with fail
    refine (l_sameJ x1 x3 B2 m2 d2 B3 m3 d3 x2 _ HP3.out.st HO3.out.st Hl2.out.2 Hl3.out.2).mono ?_
    rintro e w4 ⟨rfl, hb4⟩
    have HP4 := hide (HP3.out.on hb4)
    have HQ4 := hide (HO3.out.on hb4)
    have HJ4 := hide (HJ3.out.on hb4)
    have HX4 := hide (HX3.out.on hb4)
    have HY4 := hide (HY3.out.on hb4)
    have HZ4 := hide (HZ3.out.on hb4)
    have Hb4 := hide (below_on Hb3.out (Nat.le_refl _) hb4)
    clear hb4
    go_wp2_with fail
    refine (l_sameBs A2 n2 c2 A3 n3 c3 O _ HY4.out HZ4.out Hl2.out.1).mono ?_
    rintro e w5 ⟨rfl, hb5⟩
    have HP5 := hide (HP4.out.on hb5)
    have HQ5 := hide (HQ4.out.on hb5)
    have HJ5 := hide (HJ4.out.on hb5)
    have HX5 := hide (HX4.out.on hb5)
    have HY5 := hide (HY4.out.on hb5)
    have HZ5 := hide (HZ4.out.on hb5)
    have Hb5 := hide (below_on Hb4.out (Nat.le_refl _) hb5)
    obtain ⟨j50, j51, j52⟩ := HJ5.out.cells
    obtain ⟨p50, p51, p52⟩ := HP5.out.cells
    obtain ⟨q50, q51, q52⟩ := HQ5.out.cells
    clear hb5 p30 p31 p32 q30 q31 q32 b10 b11 b12 a10 a11 a12
    obtain ⟨N, hF⟩ := HF.out
    have HT := hide hF.nx
    have HG := hide (fun (k : Nat) (a : Bx) (ha : X[k]? = some a) (hs : a.1 ∉ N) => hF.other ha hs)
    have HSO : Hid (BSmall O) := bxs_small' hF.ran.val
    have HVO := hide hF.ran.val
    have hNl : Hid (N.length ≤ n1) := by
      have a := hF.jn.len
      have b := jEnd_le (i, L, d) m
      have c := hl.out
      simp only at b
      show N.length ≤ n1
      omega
    clear hF
    go_wp2_with fail
    refine (i_JobNext i d m A1 n1 c1 L _ HJ5.out.st Hsm.out Hn1.out hnc1).mono ?_
    intro e w6 ho
    rw [HT.out] at ho
    obtain ⟨A6, n6, c6, B6, m6, d6, rfl, h1, h2, h3, h4, hst6, hsj6, hb6⟩ := own3_s ho
    have HO6 := hide (JVar.new (i := x1) (d := x3) (c := d6) hsj6)
    have HN6 := hide (hst6.on' (on_new w6 28 #[.int .i64 x1, .slice B6 m6 d6, .int .i64 x3]))
    have HX6 := hide ((HX5.out.on hb6).on (on_new w6 28 #[.int .i64 x1, .slice B6 m6 d6, .int .i64 x3]))
    have HY6 := hide ((HY5.out.on hb6).on (on_new w6 28 #[.int .i64 x1, .slice B6 m6 d6, .int .i64 x3]))
    have HP6 := hide ((HP5.out.on hb6).on (on_new w6 28 #[.int .i64 x1, .slice B6 m6 d6, .int .i64 x3]))
    have HJ6 := hide ((HJ5.out.on hb6).on (on_new w6 28 #[.int .i64 x1, .slice B6 m6 d6, .int .i64 x3]))
    have Hb6 := hide (below_new (e := 28) (cs := #[.int .i64 x1, .slice B6 m6 d6, .int .i64 x3]) (below_on Hb5.out (Nat.le_refl _) hb6) (Nat.le_refl _))
    have Hl6 := hide (And.intro (Nat.le_trans h1 h2) (Nat.le_trans h3 h4))
    have hln6 := hide hst6.1
    clear ho hst6 hsj6 hb6 h1 h2 h3 h4 j50 j51 j52 p50 p51 p52 q50 q51 q52
    have hn6 : n6 ≤ 13 := by have h1 := hNl.out; have h2 := hln6.out; omega
    have hz5 := HO6.out.blk.lt
    go_wp2_with fail
    generalize hW : w6.alloc _ = W at *
    clear hW
    have hlX := hide HX6.out.1
    have hnX : nX ≤ 9223372036854775807 := by have := Hn0.out; unfold maxLen at this; omega
    go_loopw [15] (fun i wr => ∃ k : Nat, k ≤ nX ∧ i = .int .i64 k ∧ Hid (Below W.heap.size W wr)) (fun i _ => nX - (intOf i).toNat)
    case atStart => exact ⟨0, Nat.zero_le _, rfl, Below.refl _ _⟩
    case round =>
      obtain ⟨k, hk, rfl, hbr⟩ := hrel
      have HXr := hide (HX6.out.on hbr.out)
      have HYr := hide (HY6.out.on hbr.out)
      have HNr := hide (HN6.out.on' hbr.out)
      by_cases hlt : k < nX
      · obtain ⟨a, ha⟩ : ∃ a, X[k]? = some a := ⟨X[k]'(by have := hlX.out; omega), List.getElem?_eq_getElem _⟩
        obtain ⟨g, off, A7, n7, c7, rfl, hg, hc0, hc1, hn7, hm7, hf⟩ := HXr.out.at' ha
        have HFi := hide hf.ints
        have hgw : g < wr.heap.size := hg
        by_cases hin : a.1 ∈ N
        · have Hm : Hid (memB N a.1 = true) := memB_t hin
          have hz0 : ∀ z : Later wr.heap.size wr, z.it.cell? ⟨g, off + k * 2, none⟩ = some (.string a.1) := fun z => (z.cell hgw).trans hc0
          have Hh := hide (fun z : Later wr.heap.size wr => later_has A6 n6 c6 N a.1 z (HNr.out.on' z.below) Hl6.out.1 true Hm.out)
          clear ha hf hc1
          go_wp2_with fail
          refine wp_region_later (B := wr.heap.size) (by kernel_rfl) (by kernel_rfl) ?_
          repeat (go_big_quiet_step ((go_at_call 37; exact Hh.out _)))
          refine wpQuiet_nil ?_
          intro _ hw'
          obtain ⟨⟨w5, hb5⟩, hw''⟩ := hw'
          subst hw''
          have Hb5 := hide hb5
          clear hb5
          go_wp2_with fail
          go_roundw
          case rel => exact ⟨k + 1, by omega, by go_num, hbr.out.trans (Hb5.out.mono hbr.out.size)⟩
          case measure => simp [intOf]; omega
        · have Hm : Hid (memB N a.1 = false) := memB_f hin
          have HGa := hide (HG.out k a ha hin)
          have hsz := hbr.out.size
          clear ha hf
          go_wp2_with fail
          go_region_held3 (fun w' => w'.cell? ⟨g, off + k * 2, none⟩ = some (.string a.1) ∧ w'.cell? ⟨g, off + k * 2 + 1, none⟩ = some (.slice A7 n7 c7)) (first | exact ⟨hc06, hc16⟩ | go_keep) (first
            | (go_at_call 37
               refine (l_has A6 n6 c6 N a.1 _ (by exact HNr.out.drewN 1) Hl6.out.1).mono ?_
               rintro e w5 ⟨rfl, rfl⟩
               rw [Hm.out])
            | (go_at_call 34
               refine (i_BoxesGet A2 n2 c2 O a.1 _ (by exact HYr.out.drewN 1) HSO.out Hl2.out.1).mono ?_
               intro e w8 ho
               rw [HGa.out] at ho
               obtain ⟨A8, n8, c8, rfl, hnc8, hc8, hst8, hb8⟩ := own1_ints ho
               have HS8 := hide hst8
               have hb8' : Below wr.heap.size wr w8 := (below_drewN' wr.heap.size wr 1).trans hb8
               have HFi8 := hide ((HFi.out.below hb8').more (show _ ≤ w8.heap.size from hb8'.size))
               have Hb8 : Hid (Below W.heap.size W w8) := hbr.out.trans (hb8'.mono hsz)
               have hc06 : w8.cell? ⟨g, off + k * 2, none⟩ = some (.string a.1) := (hb8'.cell (p := ⟨g, off + k * 2, none⟩) hgw).trans hc0
               have hc16 : w8.cell? ⟨g, off + k * 2 + 1, none⟩ = some (.slice A7 n7 c7) := (hb8'.cell (p := ⟨g, off + k * 2 + 1, none⟩) hgw).trans hc1
               have hn8m := Nat.le_trans hnc8 hc8
               clear ho hst8 hb8 hb8')
            | (go_at_call 35
               refine (l_sameI A8 n8 c8 A7 n7 c7 a.2 _ HS8.out HFi8.out hn8m).mono ?_
               rintro e w9 ⟨rfl, q9, rfl⟩))
          all_goals
            go_wp2_with fail
            go_roundw
            case rel => exact ⟨k + 1, by omega, by go_num, below_drewN Hb8.out q9⟩
            case measure => simp [intOf]; omega
      · go_wp2_with fail
        go_ret
        exact ⟨rfl, below_on Hb6.out (Nat.le_refl _) hbr.out⟩
end Go.Proofs.Ytimpmlmkhjeajaa
