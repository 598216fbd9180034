/- Draws of records. -/
import Derived.Test.YtmofnmklodmkmaaGreatDoorRo
import Derived.Test.YtmofnmklodmkmaaGreatDoorDraw1
set_option linter.unusedVariables false
set_option linter.unusedSimpArgs false
namespace Go.Proofs.YtmofnmklodmkmaaGreatDoor
open Go.RowKit

structure RDrawn (k i d : Int) (s t : ByteArray) : Prop where
  k0 : -10 ≤ k
  k9 : k ≤ 10
  i0 : -1000 ≤ i
  i9 : i ≤ 1000
  d0 : -1000 ≤ d
  d9 : d ≤ 1000
  s9 : s.size ≤ 1000
  t9 : t.size ≤ 1000

theorem but_set {B g p : Nat} {w w' : World} (h : But B g w w') (hp : B ≤ p) (o : Nat) (v : Value) : But B g w (w'.setCell ⟨p, o, none⟩ v) :=
  h.trans ⟨rfl, rfl, rfl, by simp [World.setCell], fun k hk _ => Below.heap_setCell _ _ _ _ (by simp; omega)⟩
theorem rdr_set {t : TypeId} {w : World} {g p q o : Nat} {v : Value} (h : Rdr t w g p) (hq : g < q) : Rdr t (w.setCell ⟨q, o, none⟩ v) g p :=
  h.below (B := g + 1) ⟨rfl, rfl, rfl, by simp [World.setCell], fun k hk => Below.heap_setCell _ _ _ _ (by simp; omega)⟩ (by omega)
theorem but_put5 {B g p : Nat} {w w' : World} (h : But B g w w') (hp : B ≤ p) (a b d s t : Value) : But B g w (((((w'.setCell ⟨p, 0, none⟩ a).setCell ⟨p, 1, none⟩ b).setCell ⟨p, 2, none⟩ d).setCell ⟨p, 3, none⟩ s).setCell ⟨p, 4, none⟩ t) := but_set (but_set (but_set (but_set (but_set h hp _ _) hp _ _) hp _ _) hp _ _) hp _ _
theorem rdr_put5 {T : TypeId} {g n p : Nat} {w' : World} (h : Rdr T w' g n) (hp : g < p) (a b d s t : Value) : Rdr T (((((w'.setCell ⟨p, 0, none⟩ a).setCell ⟨p, 1, none⟩ b).setCell ⟨p, 2, none⟩ d).setCell ⟨p, 3, none⟩ s).setCell ⟨p, 4, none⟩ t) g n := rdr_set (rdr_set (rdr_set (rdr_set (rdr_set h hp) hp) hp) hp) hp

set_option maxHeartbeats 2000000 in
set_option maxRecDepth 100000 in
theorem rec_any (g p : Nat) (w : World) (hr : Rdr 73 w g p) (hp : p ≤ 500000) :
    Calls Tryz.prog 42 #[.pointer (some ⟨g, 0, none⟩)] w fun e w' => ∃ k i d s t p', e = .returned (rV k i d s t) ∧ RDrawn k i d s t ∧ p' ≤ p + 10 ∧ Rdr 73 w' g p' ∧ But w.heap.size g w w' := by
  have hgl := hr.lt
  have HB0 := hide (Blk.new w 28 #[.int .i64 0, .int .i64 0, .int .i64 0, .string ⟨#[]⟩, .string ⟨#[]⟩])
  have Hb0 := hide (But.of_below (g := g) ((Below.refl w.heap.size w).alloc (Nat.le_refl _) (.cells #[.int .i64 0, .int .i64 0, .int .i64 0, .string ⟨#[]⟩, .string ⟨#[]⟩] 28)))
  go_enter Tryz.func42, Tryz.ntmps42
  go_wp2_with fail
  refine (pick_any g p 4 _ (hr.alloc _) (by omega) (by omega) (by omega)).mono ?_
  rintro e w1 ⟨⟨k1, hk1, rfl⟩, hr1, hb1⟩
  have hz1 : w.heap.size + 1 ≤ w1.heap.size := by have h := hb1.size; simpa using h
  have HB1 := hide (HB0.out.but hb1 (by omega))
  have Hb1 := hide (Hb0.out.trans (hb1.mono (by simp)))
  clear hb1
  by_cases h0 : k1 = 0
  · subst h0
    go_wp2_with fail
    refine (pick_any g (p + 1) 40 _ hr1 (by omega) (by omega) (by omega)).mono ?_
    rintro e w2 ⟨⟨k2, hk2, rfl⟩, hr2, hb2⟩
    have HB2 := hide (HB1.out.but hb2 (by omega))
    have Hb2 := hide (Hb1.out.trans (hb2.mono (by omega)))
    have hz2 : w1.heap.size ≤ w2.heap.size := hb2.size
    clear hb2
    go_wp2_with fail
    refine (pick_any g (p + 1 + 1) 30 _ hr2 (by omega) (by omega) (by omega)).mono ?_
    rintro e w3 ⟨⟨k3, hk3, rfl⟩, hr3, hb3⟩
    have HB3 := hide (HB2.out.but hb3 (by omega))
    have Hb3 := hide (Hb2.out.trans (hb3.mono (by omega)))
    have hz3 : w2.heap.size ≤ w3.heap.size := hb3.size
    clear hb3
    go_wp2_with fail
    refine (name_any g (p + 1 + 1 + 1) _ hr3 (by omega)).mono ?_
    rintro e w4 ⟨⟨s, hs, rfl⟩, hr4, hb4⟩
    have HB4 := hide (HB3.out.but hb4 (by omega))
    have Hb4 := hide (Hb3.out.trans (hb4.mono (by omega)))
    obtain ⟨⟨c0, c1, c2, c3, c4⟩, f0, f1, f2, f3, f4⟩ := HB4.out.cells5
    clear hb4
    go_wp2_with fail
    exact bodyPost_ret (v := rV 1 (1 + (k2 : Int) - (k3 : Int) / 29 * 45) 0 s ⟨#[]⟩) (by simp [results, Tryz.results42, go_sem, c0, c1, c2, c3, c4]) rfl ⟨_, _, _, _, _, _, rfl, ⟨by omega, by omega, by omega, by omega, by omega, by omega, by omega, by decide⟩, by omega, rdr_put5 hr4 hgl _ _ _ _ _, but_put5 Hb4.out (Nat.le_refl _) _ _ _ _ _⟩
  by_cases h1 : k1 = 1
  · subst h1
    go_wp2_with fail
    refine (pick_any g (p + 1) 40 _ hr1 (by omega) (by omega) (by omega)).mono ?_
    rintro e w2 ⟨⟨k2, hk2, rfl⟩, hr2, hb2⟩
    have HB2 := hide (HB1.out.but hb2 (by omega))
    have Hb2 := hide (Hb1.out.trans (hb2.mono (by omega)))
    have hz2 : w1.heap.size ≤ w2.heap.size := hb2.size
    clear hb2
    go_wp2_with fail
    refine (pick_any g (p + 1 + 1) 10 _ hr2 (by omega) (by omega) (by omega)).mono ?_
    rintro e w3 ⟨⟨k3, hk3, rfl⟩, hr3, hb3⟩
    have HB3 := hide (HB2.out.but hb3 (by omega))
    have Hb3 := hide (Hb2.out.trans (hb3.mono (by omega)))
    have hz3 : w2.heap.size ≤ w3.heap.size := hb3.size
    clear hb3
    go_wp2_with fail
    refine (pick_any g (p + 1 + 1 + 1) 30 _ hr3 (by omega) (by omega) (by omega)).mono ?_
    rintro e w4 ⟨⟨k4, hk4, rfl⟩, hr4, hb4⟩
    have HB4 := hide (HB3.out.but hb4 (by omega))
    have Hb4 := hide (Hb3.out.trans (hb4.mono (by omega)))
    obtain ⟨⟨c0, c1, c2, c3, c4⟩, f0, f1, f2, f3, f4⟩ := HB4.out.cells5
    clear hb4
    go_wp2_with fail
    exact bodyPost_ret (v := rV 2 (1 + (k2 : Int)) (1 + (k3 : Int) - (k4 : Int) / 29 * 20) ⟨#[]⟩ ⟨#[]⟩) (by simp [results, Tryz.results42, go_sem, c0, c1, c2, c3, c4]) rfl ⟨_, _, _, _, _, _, rfl, ⟨by omega, by omega, by omega, by omega, by omega, by omega, by decide, by decide⟩, by omega, rdr_put5 hr4 hgl _ _ _ _ _, but_put5 Hb4.out (Nat.le_refl _) _ _ _ _ _⟩
  · go_wp2_with fail
    refine (pick_any g (p + 1) 2 _ hr1 (by omega) (by omega) (by omega)).mono ?_
    rintro e w2 ⟨⟨k2, hk2, rfl⟩, hr2, hb2⟩
    have HB2 := hide (HB1.out.but hb2 (by omega))
    have Hb2 := hide (Hb1.out.trans (hb2.mono (by omega)))
    have hz2 : w1.heap.size ≤ w2.heap.size := hb2.size
    clear hb2
    go_wp2_with fail
    refine (name_any g (p + 1 + 1) _ hr2 (by omega)).mono ?_
    rintro e w3 ⟨⟨s, hs, rfl⟩, hr3, hb3⟩
    have HB3 := hide (HB2.out.but hb3 (by omega))
    have Hb3 := hide (Hb2.out.trans (hb3.mono (by omega)))
    have hz3 : w2.heap.size ≤ w3.heap.size := hb3.size
    clear hb3
    have hlt := hr3.lt
    go_wp2_with fail
    with_reducible refine (of_lit g (p + 1 + 1 + 2) w3.heap.size _ _ _ _ (hr3.alloc _) (by omega) (by exact Blk.new w3 _ _) (by omega) ?hn (by omega) (by omega) ?hs).mono ?_
    case hn => rfl
    case hs => rfl
    rintro e w4 ⟨⟨t, ht, rfl⟩, hr4, hb4⟩
    have HB4 := hide ((HB3.out.alloc _).but hb4 (by omega))
    have Hb4 := hide ((Hb3.out.trans (But.of_below ((Below.refl _ _).alloc (by omega) _))).trans (hb4.mono (by simp; omega)))
    obtain ⟨⟨c0, c1, c2, c3, c4⟩, f0, f1, f2, f3, f4⟩ := HB4.out.cells5
    clear hb4
    go_wp2_with fail
    exact bodyPost_ret (v := rV (3 + (k2 : Int)) 0 0 s t) (by simp [results, Tryz.results42, go_sem, c0, c1, c2, c3, c4]) rfl ⟨_, _, _, _, _, _, rfl, ⟨by omega, by omega, by omega, by omega, by omega, by omega, by omega, by omega⟩, by omega, rdr_put5 hr4 hgl _ _ _ _ _, but_put5 Hb4.out (Nat.le_refl _) _ _ _ _ _⟩
end Go.Proofs.YtmofnmklodmkmaaGreatDoor
