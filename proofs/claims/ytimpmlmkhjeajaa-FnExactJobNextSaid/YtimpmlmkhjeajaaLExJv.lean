/- Walk of the exact law of JobValid. -/
import Derived.Test.YtimpmlmkhjeajaaExJb
import Derived.Test.YtimpmlmkhjeajaaZe
import Derived.Test.YtimpmlmkhjeajaaZk
import Derived.Deep.RegionHeld3
set_option linter.unusedVariables false
set_option linter.unusedSimpArgs false
namespace Go.Proofs.Ytimpmlmkhjeajaa
open Go.RowKit

set_option maxHeartbeats 4000000 in
set_option maxRecDepth 100000 in
theorem FnExactJobValid_walk (w : World) (i d : Int) (A : Option Addr) (n c : Nat) (L : List ByteArray) (hL : Strs w w.heap.size A n L) (hS : Small L) (hnc : n ≤ c) (hn : n ≤ maxLen) :
    Calls Try.prog 15 #[.agg #[.int .i64 i, .slice A n c, .int .i64 d]] w fun e w' => e = .returned (.bool true) ∧ Below w.heap.size w w' := by
  have HP := hide (Blk.new w 57 #[.int .i64 i, .slice A n c, .int .i64 d])
  have BW := hide ((Below.refl w.heap.size w).alloc (Nat.le_refl _) (.cells #[.int .i64 i, .slice A n c, .int .i64 d] 57))
  have SL := hide (hL.on' BW.out)
  have HS := hide hS
  have HN := hide hn
  clear hL hS hn
  go_enter Try.func15, Try.ntmps15
  go_wp2_with fail
  refine (e_szJ i d A n c L 1048576 _ SL.out HS.out HN.out (by omega)).mono ?_
  rintro e w1 ⟨rfl | ⟨r, rfl, hr, hnl, hsl⟩, hb⟩
  · go_wp2_with fail
    go_ret
    exact ⟨rfl, BW.out.trans (hb.mono BW.out.size)⟩
  have hr0 : ¬ ((r : Int) < 0) := by omega
  clear hsl
  try clear p0 p1 p2
  replace HP := hide (HP.out.below hb HP.out.lt)
  replace SL := hide (SL.out.on' hb)
  replace BW := hide (BW.out.trans (Below.mono hb BW.out.size))
  obtain ⟨⟨p0, p1, p2⟩, _⟩ := HP.out.cells3
  clear hb
  go_wp2_with fail
  refine (e_toJ i d A n c L _ SL.out hnl).mono ?_
  rintro e w2 ⟨g2, rfl, own2, hb⟩
  have S2 := hide (Strs.of_own own2)
  try clear p0 p1 p2
  replace HP := hide (HP.out.below hb HP.out.lt)
  replace SL := hide (SL.out.on' hb)
  replace BW := hide (BW.out.trans (Below.mono hb BW.out.size))
  obtain ⟨⟨p0, p1, p2⟩, _⟩ := HP.out.cells3
  clear hb own2
  go_wp2_with fail
  refine (s_JobValid i d _ n n L _ S2.out HS.out HN.out).mono ?_
  rintro e w3 ⟨rfl, hb⟩
  try clear p0 p1 p2
  replace HP := hide (HP.out.below hb HP.out.lt)
  replace SL := hide (SL.out.on' hb)
  replace BW := hide (BW.out.trans (Below.mono hb BW.out.size))
  obtain ⟨⟨p0, p1, p2⟩, _⟩ := HP.out.cells3
  clear hb S2
  go_wp2_with fail
  refine (e_toJ i d A n c L _ SL.out hnl).mono ?_
  rintro e w4 ⟨g4, rfl, own4, hb⟩
  try clear p0 p1 p2
  replace HP := hide (HP.out.below hb HP.out.lt)
  replace SL := hide (SL.out.on' hb)
  replace BW := hide (BW.out.trans (Below.mono hb BW.out.size))
  obtain ⟨⟨p0, p1, p2⟩, _⟩ := HP.out.cells3
  clear hb
  have hb := (Below.refl w4.heap.size w4).alloc (Nat.le_refl _) (.cells #[.int .i64 i, .slice (some ⟨g4, 0, none⟩) n n, .int .i64 d] 28)
  have HX := hide (Blk.new w4 28 #[.int .i64 i, .slice (some ⟨g4, 0, none⟩) n n, .int .i64 d])
  have SX := hide ((Strs.of_own own4).on' hb)
  try clear p0 p1 p2
  replace HP := hide (HP.out.below hb HP.out.lt)
  replace SL := hide (SL.out.on' hb)
  replace BW := hide (BW.out.trans (Below.mono hb BW.out.size))
  obtain ⟨⟨p0, p1, p2⟩, _⟩ := HP.out.cells3
  clear hb own4
  go_wp2_with fail
  refine (i_JobValid i d _ n n L _ SX.out HS.out HN.out).mono ?_
  rintro e w5 ⟨rfl, hb⟩
  try clear p0 p1 p2
  replace HP := hide (HP.out.below hb HP.out.lt)
  replace SL := hide (SL.out.on' hb)
  replace BW := hide (BW.out.trans (Below.mono hb BW.out.size))
  obtain ⟨⟨p0, p1, p2⟩, _⟩ := HP.out.cells3
  replace HX := hide (HX.out.below hb HX.out.lt)
  replace SX := hide (SX.out.on' hb)
  obtain ⟨⟨x0, x1, x2⟩, _⟩ := HX.out.cells3
  clear hb
  have hx4 := HX.out.lt
  have hp4 := HP.out.lt
  have HPk := hide HP.out
  go_wp2_with fail
  go_region_held3 (fun w' => (w'.cell? ⟨w4.heap.size, 0, none⟩ = some (.int .i64 i) ∧ w'.cell? ⟨w4.heap.size, 1, none⟩ = some (.slice (some ⟨g4, 0, none⟩) n n) ∧ w'.cell? ⟨w4.heap.size, 2, none⟩ = some (.int .i64 d)) ∧ w'.cell? ⟨w.heap.size, 0, none⟩ = some (.int .i64 i) ∧ w'.cell? ⟨w.heap.size, 1, none⟩ = some (.slice A n c) ∧ w'.cell? ⟨w.heap.size, 2, none⟩ = some (.int .i64 d)) (first | exact ⟨HX6.out, HP6.out⟩ | exact ⟨HX7.out, HP7.out⟩ | go_keep) (first
    | (go_at_call 41
       refine (e_toJ i d A n c L _ (by exact SL.out) hnl).mono ?_
       rintro e w6 ⟨g6, rfl, own6, hb6⟩
       have hb56 : Below w5.heap.size w5 w6 := (Below.refl _ w5).drew.trans hb6
       have HX6 := hide (HX.out.below hb56 hx4).cells3.1
       have HP6 := hide (HP.out.below hb56 hp4).cells3.1
       have S6 := hide (Strs.of_own own6)
       have SX6 := hide (SX.out.on' hb56)
       have B6 := hide (BW.out.trans (hb56.mono BW.out.size))
       have Hb6 := hide hb56
       clear own6 hb6 hb56)
    | (go_at_call 42
       refine (e_eqJ i d _ n n _ n n L _ (by exact SX6.out) (by exact S6.out) HN.out HN.out).mono ?_
       rintro e w7 ⟨rfl, hb7⟩
       have hb57 : Below w5.heap.size w5 w7 := Hb6.out.trans (hb7.mono Hb6.out.size)
       have HX7 := hide (HX.out.below hb57 hx4).cells3.1
       have HP7 := hide (HP.out.below hb57 hp4).cells3.1
       have B7 := hide (BW.out.trans (hb57.mono BW.out.size))
       clear hb7 hb57)
    | fail)
  all_goals
    go_wp2_with fail
    go_ret
    exact ⟨rfl, B7.out⟩
end Go.Proofs.Ytimpmlmkhjeajaa
