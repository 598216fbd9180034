/- Drawing accounts: DrawFollow. -/
import Derived.Test.YtohodhogbdcdmabDrawA3
set_option linter.unusedVariables false
set_option linter.unusedSimpArgs false
namespace Go.Proofs.Ytohodhogbdcdmab
open Go.RowKit

theorem pick_accs {base : Nat} (g p b n c : Nat) (X : List Acc) (w : World) (hr : Rdr 77 w g p) (hp : p ≤ 1000000) (hX : OwnA base w (.slice (some ⟨b, 0, none⟩) n c) X) (hg : g < base) (h1 : 1 ≤ n) (h2 : n ≤ 1000000) :
    Calls Try.prog 40 #[.pointer (some ⟨g, 0, none⟩), .int .i64 n] w.drew fun e w' => ∃ (k : Nat) (a : Acc) (u : Value), k < n ∧ e = .returned (.int .i64 k) ∧ X[k]? = some a ∧ w'.cell? ⟨b, k * 2, none⟩ = some (.string a.1) ∧ w'.cell? ⟨b, k * 2 + 1, none⟩ = some u ∧
      OwnA base w' (.slice (some ⟨b, 0, none⟩) n c) X ∧ Rdr 77 w' g (p + 1) ∧ But w.heap.size g w w' := by
  refine (pick_any g p n w.drew (hr.drewN 1) hp h1 h2).mono fun e w' ⟨⟨k, hk, he⟩, hr', hb⟩ => ?_
  have hb' : But w.heap.size g w w' := (But.of_below (below_drewN' _ w 1)).trans hb
  have own' := hX.but hb' hg
  obtain ⟨A, n', c', xs, e1, o1, o2⟩ := id own'
  injection e1 with e1 e2 e3
  subst e1 e2 e3
  have e4 := o1.1
  have e5 := o2.1
  obtain ⟨a, ha⟩ : ∃ a, X[k]? = some a := ⟨X[k]'(by omega), List.getElem?_eq_getElem _⟩
  obtain ⟨p1, u, p2, _⟩ := o2.2 k a ha
  exact ⟨k, a, u, hk, he, ha, (o1.cellAt (k * 2) (by omega)).trans p1, (o1.cellAt (k * 2 + 1) (by omega)).trans p2, own', hr', hb'⟩

set_option maxHeartbeats 1000000 in
theorem d_Follow (A : Option Addr) (n c : Nat) (w : World) (hc : Code w w.heap.size A n) (hnc : n ≤ c) (hn : n ≤ 1048576) :
    Calls Try.prog 12 #[.slice A n c] w fun e w' => DrawnA2 w e w' := by
  go_enter Try.func12, Try.ntmps12
  go_wp2_with fail
  refine (open_any A n c _ hc hnc hn).mono ?_
  rintro e w1 ⟨rfl, hr1, hb1⟩
  have hlt1 := hr1.lt
  go_wp2_with fail
  refine (accounts_any w.heap.size 0 _ hr1 (by omega)).mono ?_
  rintro e w2 ⟨v, X, p2, rfl, hown, hdr, hpos, hp2, hr2, hb2⟩
  have hs2 := hb2.size
  go_wp2_with fail
  refine (name_any w.heap.size p2 _ hr2 (by omega)).mono ?_
  rintro e w3 ⟨⟨who, hs, rfl⟩, hr3, hb3⟩
  have Hown3 := hide (hown.but hb3 hlt1)
  have Hb13 := hide (hb2.trans (hb3.mono hs2))
  obtain ⟨A1, n1, c1, xs, e1, o1, o2⟩ := Hown3.out
  subst e1
  have e4 := o1.1
  have e5 := o2.1
  have hn7 : n1 ≤ 7 ∧ 1 ≤ n1 := by have := hdr.1; omega
  obtain ⟨gX, capX, eX, hgX, hgX2⟩ := o1.form (by omega)
  injection eX with eX1 _ eX3
  subst eX1 eX3
  have Hdr := hide hdr
  have Hb1 := hide hb1
  have hs3 := Hb13.out.size
  clear o1 o2 e4 e5 hown hdr hb2 hb3 hb1
  go_wp2_with fail
  go_region_with (go_at_call 40; refine (pick_accs w.heap.size (p2 + 2) gX n1 c1 X w3 hr3 (by omega) Hown3.out hlt1 (by omega) (by omega)).mono ?_; rintro e w4 ⟨k, a, u, hk, rfl, ha, d0, d1, own4, hr4, hb4⟩)
  go_wp2_with fail
  go_ret3
  exact ⟨_, X, who, a.1, rfl, DrawnA.mk own4 (Hdr.out.more (by omega)) hpos Hb1.out (Hb13.out.trans (hb4.mono hs3)) hlt1, hs, (Hdr.out.2 a (List.mem_of_getElem? ha)).1⟩
end Go.Proofs.Ytohodhogbdcdmab
