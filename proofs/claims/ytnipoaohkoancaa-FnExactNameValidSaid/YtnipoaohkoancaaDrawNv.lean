/- DrawNameValid gives a short string. -/
import Derived.Test.YtnipoaohkoancaaDraw1
namespace Go.Proofs.Ytnipoaohkoancaa
open Go.RowKit
set_option maxHeartbeats 1000000 in
theorem d_NameValid (A : Option Addr) (n c : Nat) (w : World) (hc : Code w w.heap.size A n) (hnc : n ≤ c) (hn : n ≤ 1048576) :
    Calls Try.prog 24 #[.slice A n c] w fun e w' => Str e ∧ Below w.heap.size w w' := by
  go_enter Try.func24, Try.ntmps24
  go_wp2_with fail
  refine (open_any A n c _ hc hnc hn).mono ?_
  rintro e w1 ⟨rfl, hr1, hb1⟩
  go_wp2_with fail
  refine (pick_any w.heap.size 0 3 _ hr1 (by omega) (by omega) (by omega)).mono ?_
  rintro e w2 ⟨⟨k, hk, rfl⟩, hr2, hb2⟩
  have hlt := hr2.lt
  have hb12 : Below w.heap.size w w2 := hb1.trans (hb2.below.mono (by have := hb1.size; omega))
  go_wp2_with fail
  · with_reducible refine (of_lit w.heap.size (0 + 1) w2.heap.size _ _ _ _ (hr2.alloc _) (by omega) (by exact Blk.new w2 _ _) (by omega) ?hn (by omega) (by omega) ?hs).mono ?_
    case hn => rfl
    case hs => rfl
    rintro e w3 ⟨⟨s, hs, rfl⟩, hr3, hb3⟩
    go_wp2_with fail
    go_ret
    exact ⟨⟨s, hs, rfl⟩, (hb12.alloc hb12.size _).trans (hb3.below.mono (by simp; have := hb12.size; omega))⟩
  · refine (name_any w.heap.size (0 + 1) _ hr2 (by omega)).mono ?_
    rintro e w3 ⟨⟨s, hs, rfl⟩, hr3, hb3⟩
    go_wp2_with fail
    go_ret
    exact ⟨⟨s, hs, rfl⟩, hb12.trans (hb3.below.mono (by have := hb12.size; omega))⟩
end Go.Proofs.Ytnipoaohkoancaa
