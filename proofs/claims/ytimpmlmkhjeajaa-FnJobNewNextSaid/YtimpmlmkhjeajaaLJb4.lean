/- Walks of FnJobNext, FnJobNextSame, FnJobNextAll, FnJobNextOn. -/
import Derived.Test.YtimpmlmkhjeajaaZe
import Derived.Test.YtimpmlmkhjeajaaJn
import Derived.Test.YtimpmlmkhjeajaaDrawJ2
import Derived.Test.YtimpmlmkhjeajaaZl
import Derived.Test.YtimpmlmkhjeajaaZb
set_option linter.unusedVariables false
set_option linter.unusedSimpArgs false
namespace Go.Proofs.Ytimpmlmkhjeajaa
open Go.RowKit Go.BigFrame

set_option maxHeartbeats 1000000 in
set_option maxRecDepth 100000 in
theorem FnJob_walk (w : World) (A : Option Addr) (n c : Nat) (hc : Code w w.heap.size A n) (hnc : n ≤ c) (hm : n ≤ maxLen) :
    Calls Try.prog 11 #[.slice A n c] w fun e w' => e = .returned (.bool true) ∧ Below w.heap.size w w' := by
  by_cases h : 1048576 < n
  · unfold maxLen at hm
    go_enter Try.func11, Try.ntmps11
    go_wp2
    go_ret
    exact ⟨rfl, Below.refl _ _⟩
  go_enter Try.func11, Try.ntmps11
  go_wp2_with fail
  refine (d_JobValid A n c w hc hnc (by omega)).mono ?_
  rintro e w1 ⟨i, d, A1, n1, c1, L, rfl, hdr⟩
  have HdJ := hide hdr.jd
  have Hsm := hide hdr.small.1
  have hnc1 := hdr.nc
  have hn13 : n1 ≤ 13 := hdr.small.2
  have Hn1 : Hid (n1 ≤ maxLen) := by show n1 ≤ maxLen; unfold maxLen; omega
  have HJ1 := hide (JVar.new (i := i) (d := d) (c := c1) hdr.st)
  have Hb1 := hide (below_new (e := 28) (cs := #[.int .i64 i, .slice A1 n1 c1, .int .i64 d]) hdr.below (Nat.le_refl _))
  obtain ⟨a10, a11, a12⟩ := HJ1.out.cells
  have hl := hide hdr.st.1
  clear hdr hc
  go_wp2_with fail
  refine (i_JobValid i d A1 n1 c1 L _ HJ1.out.st Hsm.out Hn1.out).mono ?_
  rintro e w2 ⟨rfl, hb2⟩
  have HJ2 := hide (HJ1.out.on hb2)
  have Hb2 := hide (below_on Hb1.out (Nat.le_refl _) hb2)
  obtain ⟨b10, b11, b12⟩ := HJ2.out.cells
  clear hb2 a10 a11 a12
  go_wp2_with fail
  refine (s_JobValid i d A1 n1 c1 L _ HJ2.out.st Hsm.out Hn1.out).mono ?_
  rintro e w3 ⟨rfl, hb3⟩
  have HJ3 := hide (HJ2.out.on hb3)
  have Hb3 := hide (below_on Hb2.out (Nat.le_refl _) hb3)
  obtain ⟨c10, c11, c12⟩ := HJ3.out.cells
  clear hb3 b10 b11 b12
  cases hv : jbB (i, L, d)
  · go_wp2_with fail
    go_ret
    exact ⟨rfl, Hb3.out⟩
  · have hm := jb_more hv
    have hm1 : jbB (i, L, (n1 : Int) + 1) = false := by rw [← hl.out]; exact hm.1
    have hm2 : jbB (i, L, -1) = false := hm.2
    have HM1 := hide hm1
    have HM2 := hide hm2
    clear hm hm1 hm2 hv
    have HJ4 := hide (HJ3.out.on (on_new w3 28 #[.int .i64 i, .slice A1 n1 c1, .int .i64 d]))
    obtain ⟨d10, d11, d12⟩ := HJ4.out.cells
    have HJ5 := hide (HJ3.out.on (on_new w3 28 #[.int .i64 i, .slice A1 n1 c1, .int .i64 ((n1 : Int) + 1)]))
    have HX5 := hide (JVar.new (i := i) (d := (n1 : Int) + 1) (c := c1) HJ3.out.st)
    have HX6 := hide (HX5.out.on (on_new _ 28 #[.int .i64 i, .slice A1 n1 c1, .int .i64 (-1)]))
    have hY6 := JVar.new (i := i) (d := -1) (c := c1) HJ5.out.st
    rw [World.size_alloc] at hY6
    have HY6 := hide hY6
    clear hY6
    obtain ⟨e10, e11, e12⟩ := HJ5.out.cells
    obtain ⟨x10, x11, x12⟩ := HX6.out.cells
    obtain ⟨y10, y11, y12⟩ := HY6.out.cells
    have Hb5 := hide (below_new (e := 28) (cs := #[.int .i64 i, .slice A1 n1 c1, .int .i64 ((n1 : Int) + 1)]) Hb3.out (Nat.le_refl _))
    have Hb6 := hide (below_new (e := 28) (cs := #[.int .i64 i, .slice A1 n1 c1, .int .i64 (-1)]) Hb5.out (Nat.le_refl _))
    go_wp2_with fail
    refine (i_JobValid i ((n1 : Int) + 1) A1 n1 c1 L _ HX6.out.st Hsm.out Hn1.out).mono ?_
    rintro e w7 ⟨rfl, hb7⟩
    rw [HM1.out]
    have HY7 := hide (HY6.out.on hb7)
    have Hb7 := hide (below_on Hb6.out (Nat.le_refl _) hb7)
    obtain ⟨z10, z11, z12⟩ := HY7.out.cells
    clear hb7
    go_wp2_with fail
    refine (i_JobValid i (-1) A1 n1 c1 L _ HY7.out.st Hsm.out Hn1.out).mono ?_
    rintro e w8 ⟨rfl, hb8⟩
    rw [HM2.out]
    have Hb8 := hide (below_on Hb7.out (Nat.le_refl _) hb8)
    clear hb8
    go_wp2_with fail
    go_ret
    exact ⟨rfl, Hb8.out⟩
end Go.Proofs.Ytimpmlmkhjeajaa
