/- Draws of stage 6. -/
import Derived.Test.YtiejbliadegcdaaDrR
import Derived.Test.YtiejbliadegcdaaRg
set_option linter.unusedVariables false
set_option linter.unusedSimpArgs false
namespace Go.Proofs.Ytiejbliadegcdaa
open Go.RowKit

theorem code_up {w : World} {B B' n : Nat} {A : Option Addr} (h : Code w B A n) (hB : B ≤ B') : Code w B' A n := fun h0 => by
  obtain ⟨cb, off, e, hb, hc⟩ := h h0
  exact ⟨cb, off, e, by omega, hc⟩
theorem pick_z6 (g p m : Nat) (z : Int) (w : World) (hz : z = (m : Int)) (hr : Rdr 43 w g p) (hp : p ≤ 1000000) (hm : 1 ≤ m) (hm2 : m ≤ 1000000) :
    Calls Try.prog 12 #[.pointer (some ⟨g, 0, none⟩), .int .i64 z] w fun e w' => In m e ∧ Rdr 43 w' g (p + 1) ∧ But w.heap.size g w w' := by subst hz; exact pick_any g p m w hr hp hm hm2
abbrev zR : Obj := .cells #[.int .i64 0, .int .i64 0, .int .i64 0, .string ⟨#[]⟩, .string ⟨#[]⟩] 24

set_option maxHeartbeats 2000000 in
set_option maxRecDepth 100000 in
theorem d_RecordValid (A : Option Addr) (n c : Nat) (w : World) (hc : Code w w.heap.size A n) (hnc : n ≤ c) (hn : n ≤ 1048576) :
    Calls Try.prog 5 #[.slice A n c] w fun e w' => ∃ k i d s t, e = .returned (rV k i d s t) ∧ RDrawn k i d s t ∧ Below w.heap.size w w' := by
  have hb0 := (Below.refl w.heap.size w).alloc (Nat.le_refl _) zR
  have hs0 : (w.alloc zR).heap.size = w.heap.size + 1 := by simp
  have HB0 := hide (Blk.new w 24 #[.int .i64 0, .int .i64 0, .int .i64 0, .string ⟨#[]⟩, .string ⟨#[]⟩])
  have hc0 := code_up (hc.below hb0) (Nat.le_trans (Nat.le_succ _) (Nat.le_of_eq hs0.symm))
  have Hb0 := hide hb0
  have Hs0 := hide hs0
  have Hc0 := hide hc0
  clear hb0 hs0 hc0 hc
  go_enter Try.func5, Try.ntmps5
  go_wp2_with fail
  refine (open_any A n c _ Hc0.out hnc hn).mono ?_
  rintro e w1 ⟨rfl, hr1, hb1⟩
  have hlt1 := hr1.lt
  rw [Hs0.out] at hr1 hlt1 hb1 ⊢
  have HB1 := hide (HB0.out.below hb1 (by omega))
  have Hb1 := hide (Hb0.out.trans (hb1.mono (by omega)))
  clear hb1
  go_wp2_with fail
  refine (rec_any (w.heap.size + 1) 0 _ hr1 (by omega)).mono ?_
  rintro e w2 ⟨k, i, d, s, t, p2, rfl, hJ, hp2, hr2, hb2⟩
  have HB2 := hide ((HB1.out.but hb2 (by omega)).alloc (rC k i d s t))
  have hz2 : w1.heap.size ≤ w2.heap.size := hb2.size
  have Hb2 := hide ((Hb1.out.trans (hb2.below.mono (by omega))).alloc (by omega) (rC k i d s t))
  have HQ2 := hide (Blk.new w2 24 #[.int .i64 k, .int .i64 i, .int .i64 d, .string s, .string t])
  have hr2 := hr2.alloc (rC k i d s t)
  have HJ := hide hJ
  clear hb2 hJ
  go_wp2_with fail
  refine (pick_z6 (w.heap.size + 1) p2 6 6 _ rfl hr2 (by omega) (by omega) (by omega)).mono ?_
  rintro e w3 ⟨⟨k3, hk3, rfl⟩, hr3, hb3⟩
  have HB3 := hide (HB2.out.but hb3 (by omega))
  have HQ3 := hide (HQ2.out.but hb3 (by omega))
  have Hb3 := hide (Hb2.out.trans (hb3.below.mono (by simp; omega)))
  have hz3 : w2.heap.size + 1 ≤ w3.heap.size := by have h := hb3.size; simpa using h
  clear hb3
  by_cases h0 : k3 = 0
  · subst h0
    obtain ⟨⟨l0, l1, l2, l3, l4⟩, u0, u1, u2, u3, u4⟩ := HQ3.out.cells5
    go_wp2_with fail
    refine (pick_z6 (w.heap.size + 1) (p2 + 1) 6 6 _ rfl hr3 (by omega) (by omega) (by omega)).mono ?_
    rintro e w4 ⟨⟨k4, hk4, rfl⟩, hr4, hb4⟩
    have HB4 := hide ((HB3.out.but hb4 (by omega)).far (p := ⟨w2.heap.size, 0, none⟩) (show w.heap.size ≠ w2.heap.size by omega) (.int .i64 (k4 : Int)))
    have HQ4 := hide (HQ3.out.but hb4 (by omega))
    have HQ5 : Hid (Blk (w4.setCell ⟨w2.heap.size, 0, none⟩ (.int .i64 (k4 : Int))) w2.heap.size 24 #[.int .i64 (k4 : Int), .int .i64 i, .int .i64 d, .string s, .string t]) := HQ4.out.set_ 0 _
    have Hb4 := hide ((Hb3.out.trans (hb4.below.mono (by omega))).setCell (p := ⟨w2.heap.size, 0, none⟩) (by show _ ≤ w2.heap.size; omega) (.int .i64 (k4 : Int)))
    have hz4 : w3.heap.size ≤ w4.heap.size := hb4.size
    clear hb4 l0 l1 l2 l3 l4 u0 u1 u2 u3 u4
    obtain ⟨⟨m0, m1, m2, m3, m4⟩, v0, v1, v2, v3, v4⟩ := HQ4.out.cells5
    obtain ⟨⟨l0, l1, l2, l3, l4⟩, u0, u1, u2, u3, u4⟩ := HQ5.out.cells5
    obtain ⟨⟨c0, c1, c2, c3, c4⟩, f0, f1, f2, f3, f4⟩ := HB4.out.cells5
    go_wp2_with fail
    exact bodyPost_ret (v := rV (k4 : Int) i d s t) (by simp [results, Try.results5, go_sem, c0, c1, c2, c3, c4]) rfl ⟨_, _, _, _, _, rfl, ⟨by omega, by omega, HJ.out.i0, HJ.out.i9, HJ.out.d0, HJ.out.d9, HJ.out.s9, HJ.out.t9⟩, below_put5 Hb4.out (Nat.le_refl _) _ _ _ _ _⟩
  · obtain ⟨⟨l0, l1, l2, l3, l4⟩, u0, u1, u2, u3, u4⟩ := HQ3.out.cells5
    obtain ⟨⟨c0, c1, c2, c3, c4⟩, f0, f1, f2, f3, f4⟩ := HB3.out.cells5
    go_wp2_with fail
    exact bodyPost_ret (v := rV k i d s t) (by simp [results, Try.results5, go_sem, c0, c1, c2, c3, c4]) rfl ⟨_, _, _, _, _, rfl, HJ.out, below_put5 Hb3.out (Nat.le_refl _) _ _ _ _ _⟩

end Go.Proofs.Ytiejbliadegcdaa
