/- The reader: l6Open, of, l91Name. -/
import Derived.Test.YtmofnmklodmkmaaGreatDoorPick
namespace Go.Proofs.YtmofnmklodmkmaaGreatDoor
open Go.RowKit

set_option maxHeartbeats 1000000 in
theorem open_any (A : Option Addr) (n c : Nat) (w : World) (hc : Code w w.heap.size A n) (hnc : n ≤ c) (hn : n ≤ 1048576) :
    Calls Tryz.prog 23 #[.slice A n c] w fun e w' => e = .returned (.pointer (some ⟨w.heap.size, 0, none⟩)) ∧ Rdr 73 w' w.heap.size 0 ∧ Below w.heap.size w w' := by
  by_cases h : 2000 < n
  · go_enter Tryz.func23, Tryz.ntmps23
    go_wp2
    go_ret
    refine ⟨rfl, ⟨A, 2000, c, by omega, by omega, ?_, Blk.new _ _ _⟩, (Below.refl _ _).alloc (Nat.le_refl _) _⟩
    exact (hc.less (by omega)).below ((Below.refl _ _).alloc (Nat.le_refl _) _)
  · go_enter Tryz.func23, Tryz.ntmps23
    go_wp2
    go_ret
    refine ⟨rfl, ⟨A, n, c, by omega, by omega, ?_, Blk.new _ _ _⟩, (Below.refl _ _).alloc (Nat.le_refl _) _⟩
    exact hc.below ((Below.refl _ _).alloc (Nat.le_refl _) _)

set_option maxHeartbeats 1000000 in
theorem of_lit (g p : Nat) (b n c : Nat) (cs : Array Value) (w : World) (hr : Rdr 73 w g p) (hp : p ≤ 1000000) (hb : Blk w b 9 cs) (hne : b ≠ g) (hn : cs.size = n) (h1 : 1 ≤ n) (h2 : n ≤ 1000000) (hs : cs.toList.all shortStr = true) :
    Calls Tryz.prog 32 #[.pointer (some ⟨g, 0, none⟩), .slice (some ⟨b, 0, none⟩) n c] w fun e w' => Str e ∧ Rdr 73 w' g (p + 1) ∧ But w.heap.size g w w' := by
  have HN := hide hn
  have HS := hide hs
  have HB := hide hb
  clear hn hs hb
  go_enter Tryz.func32, Tryz.ntmps32
  go_wp2_with fail
  refine (pick_any g p n _ hr hp h1 h2).mono ?_
  rintro e w1 ⟨⟨k, hk, rfl⟩, hr1, hbut⟩
  have hk' : k < cs.size := by have := HN.out; omega
  obtain ⟨s, hs5, hs⟩ := shortStr_of (List.all_eq_true.1 HS.out cs[k] (by simp))
  have hc1 : w1.cell? ⟨b, k, none⟩ = some (.string s) := by
    rw [(show Blk w1 b _ cs from (hbut.block b HB.out.lt hne).trans HB.out).cell, Array.getElem?_eq_getElem hk', hs]
  clear hs
  go_wp2_with fail
  go_ret
  exact ⟨⟨s, hs5, rfl⟩, hr1, hbut⟩

set_option maxHeartbeats 1000000 in
theorem name_any (g p : Nat) (w : World) (hr : Rdr 73 w g p) (hp : p ≤ 900000) :
    Calls Tryz.prog 61 #[.pointer (some ⟨g, 0, none⟩)] w fun e w' => Str e ∧ Rdr 73 w' g (p + 2) ∧ But w.heap.size g w w' := by
  go_enter Tryz.func61, Tryz.ntmps61
  go_wp2_with fail
  refine (pick_any g p 40 _ hr (by omega) (by omega) (by omega)).mono ?_
  rintro e w1 ⟨⟨k, hk, rfl⟩, hr1, hbut⟩
  have hlt := hr1.lt
  go_wp2_with fail
  all_goals
    with_reducible refine (of_lit g (p + 1) w1.heap.size _ _ _ _ (hr1.alloc _) (by omega) (by exact Blk.new w1 _ _) (by omega) ?hn (by omega) (by omega) ?hs).mono ?_
    case hn => rfl
    case hs => rfl
    rintro e w2 ⟨⟨s, hs, rfl⟩, hr2, hbut2⟩
    go_wp2_with fail
    go_ret
    exact ⟨⟨s, hs, rfl⟩, hr2, hbut.trans ((But.of_below ((Below.refl _ _).alloc hbut.size _)).trans (hbut2.mono (by simp; have := hbut.size; omega)))⟩
end Go.Proofs.YtmofnmklodmkmaaGreatDoor
