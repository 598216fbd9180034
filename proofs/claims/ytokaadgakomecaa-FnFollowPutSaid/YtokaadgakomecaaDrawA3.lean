/- Drawing accounts: DrawAccountsValid, DrawFollowersOf, DrawFollowedBy, DrawFollow, DrawUnfollow. -/
import Derived.Test.YtokaadgakomecaaDrawA2
import Derived.Deep.RegionWith
set_option linter.unusedVariables false
set_option linter.unusedSimpArgs false
namespace Go.Proofs.Ytokaadgakomecaa
open Go.RowKit

/-- Accounts were drawn. -/
def DrawnA (w : World) (v : Value) (X : List Acc) (w' : World) : Prop := ∃ A n c, v = .slice A n c ∧ Accs w' w'.heap.size A n X ∧ n ≤ c ∧ ADrawn 8 X ∧ 0 < X.length ∧ OwnA w.heap.size w' v X ∧ Below w.heap.size w w'
def DrawnA0 (w : World) (e : Ending) (w' : World) : Prop := ∃ v X, e = .returned v ∧ DrawnA w v X w'
def DrawnA1 (w : World) (e : Ending) (w' : World) : Prop := ∃ v X s, e = .returned (.tuple #[v, .string s]) ∧ DrawnA w v X w' ∧ s.size ≤ 5
/-- .. with two names, of which the second one is that of an account. -/
def DrawnA2 (w : World) (e : Ending) (w' : World) : Prop := ∃ v X who s, e = .returned (.tuple #[v, .string who, .string s]) ∧ DrawnA w v X w' ∧ who.size ≤ 5 ∧ s.size ≤ 3
theorem DrawnA.mk {w w1 w2 : World} {v : Value} {X : List Acc} (h : OwnA w1.heap.size w2 v X) (hd : ADrawn 8 X) (h0 : 0 < X.length) (hb : Below w.heap.size w w1) (hb2 : But w1.heap.size w.heap.size w1 w2) (hg : w.heap.size < w1.heap.size) : DrawnA w v X w2 := by
  obtain ⟨A, n, c, e, h1, h2, h3, _⟩ := h.accs
  have hs := hb2.size
  refine ⟨A, n, c, e, h3, h1, hd, h0, ?_, hb.trans (hb2.below.mono (by omega))⟩
  obtain ⟨A, n, c, xs, rfl, g1, g2⟩ := h
  exact ⟨A, n, c, xs, rfl, ⟨g1.1, by
    rcases g1.2 with h | ⟨g, cap, cur, e1, e2, e3⟩
    · exact .inl h
    · exact .inr ⟨g, cap, cur, e1, by omega, e3⟩⟩, g2.more fun b hb => ⟨by omega, hb.2⟩⟩

set_option maxHeartbeats 1000000 in
theorem d_AccountsValid (A : Option Addr) (n c : Nat) (w : World) (hc : Code w w.heap.size A n) (hnc : n ≤ c) (hn : n ≤ 1048576) :
    Calls Try.prog 41 #[.slice A n c] w fun e w' => DrawnA0 w e w' := by
  go_enter Try.func41, Try.ntmps41
  go_wp2_with fail
  refine (open_any A n c _ hc hnc hn).mono ?_
  rintro e w1 ⟨rfl, hr1, hb1⟩
  have hlt1 := hr1.lt
  go_wp2_with fail
  refine (accounts_any w.heap.size 0 _ hr1 (by omega)).mono ?_
  rintro e w2 ⟨v, X, p2, rfl, hown, hdr, hpos, hp2, hr2, hb2⟩
  have Hown := hide hown
  have Hb2 := hide hb2
  have hs2 := hb2.size
  clear hown hb2
  go_wp2_with fail
  refine (pick_any w.heap.size p2 8 _ hr2 (by omega) (by omega) (by omega)).mono ?_
  rintro e w8 ⟨⟨q8, hq8, rfl⟩, hr8, hb8⟩
  have hs8 := hb8.size
  have Hown8 := hide (Hown.out.but hb8 hlt1)
  have Hb8 := hide (Hb2.out.trans (hb8.mono hs2))
  have Hdr := hide hdr
  clear hdr hb8
  by_cases e0 : q8 = 0
  rotate_left
  · have f0 : ((q8 : Int) == 0) = false := by rw [beq_eq_false_iff_ne]; omega
    clear e0
    go_wp2_with fail
    go_ret
    exact ⟨v, X, rfl, DrawnA.mk Hown8.out (Hdr.out.more (by omega)) hpos hb1 Hb8.out hlt1⟩
  subst e0
  obtain ⟨⟨nm, F⟩, X', hXe⟩ := List.exists_cons_of_length_pos hpos
  subst hXe
  obtain ⟨A1, n1, c1, xs1, e1, hX1, hR1⟩ := Hown8.out
  subst e1
  have hxl := hR1.1
  have hnx := hX1.1
  have hn6 : n1 ≤ 7 ∧ 1 ≤ n1 := by have := Hdr.out.1; simp at hxl this; omega
  obtain ⟨gX, capX, eX, hgX, hgX2⟩ := hX1.form (by omega)
  injection eX with eX1 eX2 eX3
  subst eX1 eX3
  obtain ⟨h0, u, h1, hu⟩ := hR1.2 0 (nm, F) rfl
  have hc1 : w8.cell? ⟨gX, 1, none⟩ = some u := (hX1.cellAt 1 (by omega)).trans h1
  have hf1 : w8.frozen? ⟨gX, 1, none⟩ = false := hX1.frozenAt 1
  have hba := (Below.refl w8.heap.size w8).alloc (Nat.le_refl _) (.cells #[.string { data := #[98] }, .string { data := #[97] }] 9)
  have hc1' : (w8.alloc (.cells #[.string { data := #[98] }, .string { data := #[97] }] 9)).cell? ⟨gX, 1, none⟩ = some u := (hba.cell (p := ⟨gX, 1, none⟩) hgX2).trans hc1
  have hf1' : (w8.alloc (.cells #[.string { data := #[98] }, .string { data := #[97] }] 9)).frozen? ⟨gX, 1, none⟩ = false := (hba.frozen (p := ⟨gX, 1, none⟩) hgX2).trans hf1
  have hres := outer_set nm F [{ data := #[98] }, { data := #[97] }] X' 9 rfl 2 rfl (by unfold maxLen; omega) hX1 hR1 hr8 Hb8.out hlt1
  rw [World.setCell_alloc_past _ _ _ _ hgX2] at hres
  have Hres := hide hres
  clear hba hres hX1 hR1 h0 h1 hxl hnx hu hpos
  go_wp2_with fail
  go_ret
  exact ⟨.slice (some ⟨gX, 0, none⟩) n1 c1, _, rfl, DrawnA.mk Hres.out.1 ((adrawn_set Hdr.out (G := [{ data := #[98] }, { data := #[97] }]) ⟨by simp, by simp; decide⟩).more (by omega)) (by simp) hb1 Hres.out.2.2 hlt1⟩

set_option maxHeartbeats 1000000 in
theorem d_FollowersOf (A : Option Addr) (n c : Nat) (w : World) (hc : Code w w.heap.size A n) (hnc : n ≤ c) (hn : n ≤ 1048576) :
    Calls Try.prog 35 #[.slice A n c] w fun e w' => DrawnA1 w e w' := by
  go_enter Try.func35, Try.ntmps35
  go_wp2_with fail
  refine (open_any A n c _ hc hnc hn).mono ?_
  rintro e w1 ⟨rfl, hr1, hb1⟩
  have hlt1 := hr1.lt
  go_wp2_with fail
  refine (accounts_any w.heap.size 0 _ hr1 (by omega)).mono ?_
  rintro e w2 ⟨v, X, p2, rfl, hown, hdr, hpos, hp2, hr2, hb2⟩
  have hs2 := hb2.size
  go_wp2_with fail
  refine (name_any w.heap.size p2 _ hr2 (by omega)).mono ?_
  rintro e w3 ⟨⟨s, hs, rfl⟩, hr3, hb3⟩
  go_wp2_with fail
  go_ret2
  exact ⟨v, X, s, rfl, DrawnA.mk (hown.but hb3 hlt1) (hdr.more (by omega)) hpos hb1 (hb2.trans (hb3.mono hs2)) hlt1, hs⟩

set_option maxHeartbeats 1000000 in
theorem d_FollowedBy (A : Option Addr) (n c : Nat) (w : World) (hc : Code w w.heap.size A n) (hnc : n ≤ c) (hn : n ≤ 1048576) :
    Calls Try.prog 38 #[.slice A n c] w fun e w' => DrawnA1 w e w' := by
  go_enter Try.func38, Try.ntmps38
  go_wp2_with fail
  refine (d_FollowersOf A n c _ hc hnc hn).mono ?_
  rintro e w1 ⟨v, X, s, rfl, h1, h2⟩
  go_wp2_with fail
  go_ret2
  exact ⟨v, X, s, rfl, h1, h2⟩
end Go.Proofs.Ytokaadgakomecaa
