/- Draws of stage 6. -/
import Derived.Test.YtiejbliadegcdaaDoorDrR
import Derived.Test.YtiejbliadegcdaaDoorRg
set_option linter.unusedVariables false
set_option linter.unusedSimpArgs false
namespace Go.Proofs.YtiejbliadegcdaaDoor
open Go.RowKit

theorem code_up {w : World} {B B' n : Nat} {A : Option Addr} (h : Code w B A n) (hB : B ≤ B') : Code w B' A n := fun h0 => by
  obtain ⟨cb, off, e, hb, hc⟩ := h h0
  exact ⟨cb, off, e, by omega, hc⟩
theorem pick_z6 (g p m : Nat) (z : Int) (w : World) (hz : z = (m : Int)) (hr : Rdr 61 w g p) (hp : p ≤ 1000000) (hm : 1 ≤ m) (hm2 : m ≤ 1000000) :
    Calls Tryd.prog 22 #[.pointer (some ⟨g, 0, none⟩), .int .i64 z] w fun e w' => In m e ∧ Rdr 61 w' g (p + 1) ∧ But w.heap.size g w w' := by subst hz; exact pick_any g p m w hr hp hm hm2
abbrev zR : Obj := .cells #[.int .i64 0, .int .i64 0, .int .i64 0, .string ⟨#[]⟩, .string ⟨#[]⟩] 24

set_option maxHeartbeats 2000000 in
set_option maxRecDepth 100000 in
theorem d_RecordText (A : Option Addr) (n c : Nat) (w : World) (hc : Code w w.heap.size A n) (hnc : n ≤ c) (hn : n ≤ 1048576) :
    Calls Tryd.prog 11 #[.slice A n c] w fun e w' => ∃ p k i d s t, e = .returned (.tuple #[.int .i64 p, rV k i d s t]) ∧ -1000 ≤ p ∧ p ≤ 1000 ∧ RDrawn k i d s t ∧ Below w.heap.size w w' := by
  have hb0 := (Below.refl w.heap.size w).alloc (Nat.le_refl _) zR
  have hs0 : (w.alloc zR).heap.size = w.heap.size + 1 := by simp
  have HB0 := hide (Blk.new w 24 #[.int .i64 0, .int .i64 0, .int .i64 0, .string ⟨#[]⟩, .string ⟨#[]⟩])
  have hc0 := code_up (hc.below hb0) (Nat.le_trans (Nat.le_succ _) (Nat.le_of_eq hs0.symm))
  have Hb0 := hide hb0
  have Hs0 := hide hs0
  have Hc0 := hide hc0
  clear hb0 hs0 hc0 hc
  go_enter Tryd.func11, Tryd.ntmps11
  go_wp2_with fail
  refine (open_any A n c _ Hc0.out hnc hn).mono ?_
  rintro e w1 ⟨rfl, hr1, hb1⟩
  have hlt1 := hr1.lt
  rw [Hs0.out] at hr1 hlt1 hb1 ⊢
  have HB1 := hide (HB0.out.below hb1 (by omega))
  have Hb1 := hide (Hb0.out.trans (hb1.mono (by omega)))
  clear hb1
  go_wp2_with fail
  refine (pick_z6 (w.heap.size + 1) 0 30 30 _ rfl hr1 (by omega) (by omega) (by omega)).mono ?_
  rintro e w2 ⟨⟨k2, hk2, rfl⟩, hr2, hb2⟩
  have HB2 := hide (HB1.out.but hb2 (by omega))
  have Hb2 := hide (Hb1.out.trans (hb2.below.mono (by omega)))
  have hz2 : w1.heap.size ≤ w2.heap.size := hb2.size
  clear hb2
  go_wp2_with fail
  refine (pick_z6 (w.heap.size + 1) (0 + 1) 30 30 _ rfl hr2 (by omega) (by omega) (by omega)).mono ?_
  rintro e w3 ⟨⟨k3, hk3, rfl⟩, hr3, hb3⟩
  have HB3 := hide (HB2.out.but hb3 (by omega))
  have Hb3 := hide (Hb2.out.trans (hb3.below.mono (by omega)))
  have hz3 : w2.heap.size ≤ w3.heap.size := hb3.size
  clear hb3
  go_wp2_with fail
  refine (rec_any (w.heap.size + 1) (0 + 1 + 1) _ hr3 (by omega)).mono ?_
  rintro e w4 ⟨k, i, d, s, t, p4, rfl, hJ, hp4, hr4, hb4⟩
  have HB4 := hide (HB3.out.but hb4 (by omega))
  have Hb4 := hide (Hb3.out.trans (hb4.below.mono (by omega)))
  have HJ := hide hJ
  clear hb4 hJ
  obtain ⟨⟨c0, c1, c2, c3, c4⟩, f0, f1, f2, f3, f4⟩ := HB4.out.cells5
  go_wp2_with fail
  exact bodyPost_ret (v := .tuple #[.int .i64 (1 + (k2 : Int) - (k3 : Int) / 29 * 31), rV k i d s t]) (by simp [results, Tryd.results11, go_sem, c0, c1, c2, c3, c4]) rfl ⟨_, _, _, _, _, _, rfl, by omega, by omega, HJ.out, below_put5 Hb4.out (Nat.le_refl _) _ _ _ _ _⟩
end Go.Proofs.YtiejbliadegcdaaDoor
