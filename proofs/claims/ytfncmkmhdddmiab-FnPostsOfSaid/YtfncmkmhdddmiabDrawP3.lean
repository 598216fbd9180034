/- Drawing posts: DrawPostsValid, DrawPostsAdd, DrawPostsOf, DrawPostsAuthor. -/
import Derived.Test.YtfncmkmhdddmiabDrawP2
import Derived.Test.YtfncmkmhdddmiabRev
import Derived.Deep.RegionWith
set_option linter.unusedVariables false
set_option linter.unusedSimpArgs false
namespace Go.Proofs.Ytfncmkmhdddmiab
open Go.RowKit

set_option maxHeartbeats 1000000 in
theorem d_PostsAdd (A : Option Addr) (n c : Nat) (w : World) (hc : Code w w.heap.size A n) (hnc : n ≤ c) (hn : n ≤ 1048576) :
    Calls Try.prog 16 #[.slice A n c] w fun e w' => DrawnP1 w e w' := by
  go_enter Try.func16, Try.ntmps16
  go_wp2_with fail
  refine (open_any A n c _ hc hnc hn).mono ?_
  rintro e w1 ⟨rfl, hr1, hb1⟩
  have hlt1 := hr1.lt
  go_wp2_with fail
  refine (posts_any w.heap.size 0 _ hr1 (by omega)).mono ?_
  rintro e w2 ⟨v, X, p2, rfl, hown, hdr, hp2, hr2, hb2⟩
  have hs2 := hb2.size
  go_wp2_with fail
  refine (name_any w.heap.size p2 _ hr2 (by omega)).mono ?_
  rintro e w3 ⟨⟨s, hs, rfl⟩, hr3, hb3⟩
  go_wp2_with fail
  go_ret2
  exact ⟨v, X, s, rfl, DrawnP.mk (hown.but hb3 hlt1) hdr hb1 (hb2.trans (hb3.mono hs2)) hlt1, hs⟩

set_option maxHeartbeats 1000000 in
theorem d_PostsOf (A : Option Addr) (n c : Nat) (w : World) (hc : Code w w.heap.size A n) (hnc : n ≤ c) (hn : n ≤ 1048576) :
    Calls Try.prog 24 #[.slice A n c] w fun e w' => DrawnP1 w e w' := by
  go_enter Try.func24, Try.ntmps24
  go_wp2_with fail
  refine (open_any A n c _ hc hnc hn).mono ?_
  rintro e w1 ⟨rfl, hr1, hb1⟩
  have hlt1 := hr1.lt
  go_wp2_with fail
  refine (posts_any w.heap.size 0 _ hr1 (by omega)).mono ?_
  rintro e w2 ⟨v, X, p2, rfl, hown, hdr, hp2, hr2, hb2⟩
  have hs2 := hb2.size
  have Hown := hide hown
  have Hb2 := hide hb2
  clear hown hb2
  go_wp2_with fail
  with_reducible refine (of_lit w.heap.size p2 w2.heap.size _ _ _ _ (hr2.alloc _) (by omega) (by exact Blk.new w2 _ _) (by omega) ?hn (by omega) (by omega) ?hs).mono ?_
  case hn => rfl
  case hs => rfl
  rintro e w3 ⟨⟨s, hs, rfl⟩, hr3, hb3⟩
  have Hb3 := hide ((But.of_below ((Below.refl w2.heap.size w2).alloc (Nat.le_refl _) _)).trans (hb3.mono (by simp)))
  clear hb3
  go_wp2_with fail
  go_ret2
  exact ⟨v, X, s, rfl, DrawnP.mk (Hown.out.but Hb3.out hlt1) hdr hb1 (Hb2.out.trans (Hb3.out.mono hs2)) hlt1, hs⟩

set_option maxHeartbeats 1000000 in
theorem d_PostsValid (A : Option Addr) (n c : Nat) (w : World) (hc : Code w w.heap.size A n) (hnc : n ≤ c) (hn : n ≤ 1048576) :
    Calls Try.prog 30 #[.slice A n c] w fun e w' => DrawnP0 w e w' := by
  go_enter Try.func30, Try.ntmps30
  go_wp2_with fail
  refine (open_any A n c _ hc hnc hn).mono ?_
  rintro e w1 ⟨rfl, hr1, hb1⟩
  have hlt1 := hr1.lt
  go_wp2_with fail
  refine (posts_any w.heap.size 0 _ hr1 (by omega)).mono ?_
  rintro e w2 ⟨v, X, p2, rfl, hown, hdr, hp2, hr2, hb2⟩
  have hs2 := hb2.size
  have Hown := hide hown
  have Hb2 := hide hb2
  have Hdr := hide hdr
  have Hb1 := hide hb1
  obtain ⟨A1, n1, c1, rfl, hl1, hnc1, hc1, hst1⟩ := hown.psts
  clear hown hb2 hdr hb1 hst1
  by_cases h0 : n1 = 0
  · have hn0 : ¬ ((0 : Int) < (n1 : Int)) := by omega
    clear h0
    go_wp2_with fail
    go_ret
    exact ⟨_, X, rfl, DrawnP.mk Hown.out Hdr.out Hb1.out Hb2.out hlt1⟩
  have hn0 : (0 : Int) < (n1 : Int) := by omega
  go_wp2_with fail
  refine (pick_any w.heap.size p2 8 _ hr2 (by omega) (by omega) (by omega)).mono ?_
  rintro e w3 ⟨⟨k8, hk8, rfl⟩, hr3, hb3⟩
  have hs3 := hb3.size
  have Hown3 := hide (Hown.out.but hb3 hlt1)
  have Hb3 := hide (Hb2.out.trans (hb3.mono hs2))
  clear hb3
  by_cases h8 : k8 = 0
  rotate_left
  · have hk80 : ((k8 : Int) == 0) = false := by rw [beq_eq_false_iff_ne]; omega
    clear h8
    go_wp2_with fail
    go_ret
    exact ⟨_, X, rfl, DrawnP.mk Hown3.out Hdr.out Hb1.out Hb3.out hlt1⟩
  subst h8
  obtain ⟨A2, n2, c2, e2, own2⟩ := Hown3.out
  injection e2 with e2a e2b e2c
  subst e2a e2b e2c
  obtain ⟨gX, capX, eX, hgX, hgX2⟩ := own2.form (by omega)
  injection eX with eX1 _ eX3
  subst eX1 eX3
  obtain ⟨a, ha⟩ : ∃ a, X[0]? = some a := ⟨X[0]'(by omega), List.getElem?_eq_getElem _⟩
  have Own2 := hide own2
  have Ha := hide ha
  clear own2 ha
  go_wp2_with fail
  refine (pick_any w.heap.size (p2 + 1) 3 _ (hr3.alloc _) (by omega) (by omega) (by omega)).mono ?_
  rintro e w4 ⟨⟨k3, hk3, rfl⟩, hr4, hb4⟩
  have hblk : Blk w4 w3.heap.size 3 #[.int .i64 0, .int .i64 1, .int .i64 1000] := (hb4.block _ (by simp) (by omega)).trans (Blk.new w3 _ _)
  obtain ⟨z, hz0, hz1, hzc⟩ : ∃ z : Int, 0 ≤ z ∧ z ≤ 1000 ∧ w4.cell? ⟨w3.heap.size, k3, none⟩ = some (.int .i64 z) := by
    rw [hblk.cell]
    rcases k3 with _ | _ | _ | k3
    · exact ⟨0, by omega, by omega, rfl⟩
    · exact ⟨1, by omega, by omega, rfl⟩
    · exact ⟨1000, by omega, by omega, rfl⟩
    · omega
  have hs4 := hb4.size
  have Own4 := hide (own_but (Own2.out.alloc (.cells #[.int .i64 0, .int .i64 1, .int .i64 1000] 3)) hb4 (show w.heap.size < w1.heap.size from hlt1))
  have Hb4 := hide (Hb3.out.trans ((But.of_below (g := w.heap.size) ((Below.refl w3.heap.size w3).alloc (Nat.le_refl _) (.cells #[.int .i64 0, .int .i64 1, .int .i64 1000] 3))).trans (hb4.mono (by simp)) |>.mono (by omega)))
  have hc0 : w4.cell? ⟨gX, 0, none⟩ = some (.int .i64 a.1) := (Own4.out.cellAt 0 (by have := hl1; omega)).trans (pcells_at Ha.out).1
  have hf0 : w4.frozen? ⟨gX, 0, none⟩ = false := Own4.out.frozenAt 0
  have hst := OwnP.set0 Own4.out Ha.out z
  rw [Nat.zero_mul] at hst
  have Hst := hide hst.1
  have Hd := hide (Hdr.out.set0 Ha.out hz0 hz1)
  have Hb5 := hide (Hb4.out.trans ⟨hst.2.os, hst.2.tape, hst.2.output, hst.2.size, fun q hq _ => hst.2.block q (by have := Hb4.out.size; omega) (fun e => by injection e; omega)⟩)
  clear hb4 hblk hst
  go_wp2_with fail
  go_ret
  exact ⟨_, _, rfl, DrawnP.mk ⟨_, _, _, rfl, Hst.out⟩ Hd.out Hb1.out Hb5.out hlt1⟩

theorem pick_psts {base : Nat} (g p b n c : Nat) (X : List Pst) (w : World) (hr : Rdr 73 w g p) (hp : p ≤ 1000000) (hX : OwnP base w (.slice (some ⟨b, 0, none⟩) n c) X) (hg : g < base) (h1 : 1 ≤ n) (h2 : n ≤ 1000000) :
    Calls Try.prog 50 #[.pointer (some ⟨g, 0, none⟩), .int .i64 n] w.drew fun e w' => ∃ (k : Nat) (a : Pst), k < n ∧ e = .returned (.int .i64 k) ∧ X[k]? = some a ∧ w'.cell? ⟨b, k * 2, none⟩ = some (.int .i64 a.1) ∧ b < w'.heap.size ∧
      OwnP base w' (.slice (some ⟨b, 0, none⟩) n c) X ∧ But w.heap.size g w w' := by
  refine (pick_any g p n w.drew (hr.drewN 1) hp h1 h2).mono fun e w' ⟨⟨k, hk, he⟩, hr', hb⟩ => ?_
  have hb' : But w.heap.size g w w' := (But.of_below (below_drewN' _ w 1)).trans hb
  have own' := hX.but hb' hg
  obtain ⟨A, n', c', e1, o1⟩ := id own'
  injection e1 with e1 e2 e3
  subst e1 e2 e3
  have e4 := (Psts.of_own o1).1
  obtain ⟨a, ha⟩ : ∃ a, X[k]? = some a := ⟨X[k]'(by omega), List.getElem?_eq_getElem _⟩
  exact ⟨k, a, hk, he, ha, (o1.cellAt (k * 2) (by omega)).trans (pcells_at ha).1, (o1.lt b rfl).2, own', hb'⟩

set_option maxHeartbeats 1000000 in
theorem d_PostsAuthor (A : Option Addr) (n c : Nat) (w : World) (hc : Code w w.heap.size A n) (hnc : n ≤ c) (hn : n ≤ 1048576) :
    Calls Try.prog 27 #[.slice A n c] w fun e w' => DrawnP2 w e w' := by
  go_enter Try.func27, Try.ntmps27
  go_wp2_with fail
  refine (open_any A n c _ hc hnc hn).mono ?_
  rintro e w1 ⟨rfl, hr1, hb1⟩
  have hlt1 := hr1.lt
  go_wp2_with fail
  refine (posts_any w.heap.size 0 _ hr1 (by omega)).mono ?_
  rintro e w2 ⟨v, X, p2, rfl, hown, hdr, hp2, hr2, hb2⟩
  have hs2 := hb2.size
  have Hown := hide hown
  have Hb2 := hide hb2
  have Hdr := hide hdr
  have Hb1 := hide hb1
  obtain ⟨A1, n1, c1, rfl, hl1, hnc1, hc1, hst1⟩ := hown.psts
  have hn13 : n1 ≤ 13 := by have := hdr.1; omega
  clear hown hb2 hdr hb1 hst1
  by_cases h0 : n1 = 0
  · have hn0 : ¬ ((0 : Int) < (n1 : Int)) := by omega
    clear h0
    go_wp2_with fail
    refine (pick_any w.heap.size p2 20 _ hr2 (by omega) (by omega) (by omega)).mono ?_
    rintro e w3 ⟨⟨k3, hk3, rfl⟩, hr3, hb3⟩
    go_wp2_with fail
    go_ret2
    exact ⟨_, X, k3, rfl, DrawnP.mk (Hown.out.but hb3 hlt1) Hdr.out Hb1.out (Hb2.out.trans (hb3.mono hs2)) hlt1, by omega, by omega⟩
  have hn0 : (0 : Int) < (n1 : Int) := by omega
  go_wp2_with fail
  refine (pick_any w.heap.size p2 4 _ hr2 (by omega) (by omega) (by omega)).mono ?_
  rintro e w3 ⟨⟨k4, hk4, rfl⟩, hr3, hb3⟩
  have hs3 := hb3.size
  have Hown3 := hide (Hown.out.but hb3 hlt1)
  have Hb3 := hide (Hb2.out.trans (hb3.mono hs2))
  clear hb3
  by_cases h4 : 0 < k4
  rotate_left
  · have hk40 : ¬ ((0 : Int) < (k4 : Int)) := by omega
    clear h4
    go_wp2_with fail
    refine (pick_any w.heap.size (p2 + 1) 20 _ hr3 (by omega) (by omega) (by omega)).mono ?_
    rintro e w4 ⟨⟨k3, hk3, rfl⟩, hr4, hb4⟩
    go_wp2_with fail
    go_ret2
    exact ⟨_, X, k3, rfl, DrawnP.mk (Hown3.out.but hb4 hlt1) Hdr.out Hb1.out (Hb3.out.trans (hb4.mono Hb3.out.size)) hlt1, by omega, by omega⟩
  obtain ⟨A2, n2, c2, e2, own2⟩ := Hown3.out
  injection e2 with e2a e2b e2c
  subst e2a e2b e2c
  obtain ⟨gX, capX, eX, hgX, hgX2⟩ := own2.form (by omega)
  injection eX with eX1 _ eX3
  subst eX1 eX3
  clear own2
  have hs13 := Hb3.out.size
  go_wp2_with fail
  go_region_with (go_at_call 50; refine (pick_psts w.heap.size (p2 + 1) gX n1 c1 X w3 hr3 (by omega) Hown3.out hlt1 (by omega) (by omega)).mono ?_; rintro e w6 ⟨k6, a6, hk6, rfl, ha6, hc6, hg6, own6, hb6⟩)
  all_goals (try go_wp2_with fail)
  all_goals go_ret2
  all_goals exact ⟨_, X, a6.1, rfl, DrawnP.mk own6 Hdr.out Hb1.out (Hb3.out.trans (hb6.mono hs13)) hlt1, (Hdr.out.2 a6 (List.mem_of_getElem? ha6)).1, (Hdr.out.2 a6 (List.mem_of_getElem? ha6)).2.1⟩
end Go.Proofs.Ytfncmkmhdddmiab
