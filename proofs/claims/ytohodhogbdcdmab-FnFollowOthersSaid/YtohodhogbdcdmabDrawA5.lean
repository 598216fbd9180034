/- Drawing accounts: DrawUnfollow. -/
import Derived.Test.YtohodhogbdcdmabDrawA4
set_option linter.unusedVariables false
set_option linter.unusedSimpArgs false
namespace Go.Proofs.Ytohodhogbdcdmab
open Go.RowKit

/-- Followers in blocks of the call's own. -/
abbrev FlsB (base : Nat) (w : World) (u : Value) (F : List ByteArray) : Prop := Fls w (fun b => base ≤ b ∧ b < w.heap.size) u F
theorem FlsB.but {base g : Nat} {w w' : World} {u : Value} {F : List ByteArray} (h : FlsB base w u F) (hb : But w.heap.size g w w') (hg : g < base) : FlsB base w' u F :=
  (h.keep fun p hp => by unfold World.cell?; rw [hb.block _ hp.2 (by omega)]).more fun k hk => ⟨hk.1, by have := hb.size; omega⟩

theorem pick_accs2 {base : Nat} (g p b n c : Nat) (X : List Acc) (w : World) (hr : Rdr 77 w g p) (hp : p ≤ 1000000) (hX : OwnA base w (.slice (some ⟨b, 0, none⟩) n c) X) (hg : g < base) (h1 : 1 ≤ n) (h2 : n ≤ 1000000) :
    Calls Try.prog 40 #[.pointer (some ⟨g, 0, none⟩), .int .i64 n] w fun e w' => ∃ (k : Nat) (a : Acc) (A' : Option Addr) (n' c' : Nat), k < n ∧ e = .returned (.int .i64 k) ∧ X[k]? = some a ∧ w'.cell? ⟨b, k * 2, none⟩ = some (.string a.1) ∧ w'.cell? ⟨b, k * 2 + 1, none⟩ = some (.slice A' n' c') ∧
      n' ≤ c' ∧ FlsB base w' (.slice A' n' c') a.2 ∧ a.2.length = n' ∧ OwnA base w' (.slice (some ⟨b, 0, none⟩) n c) X ∧ Rdr 77 w' g (p + 1) ∧ But w.heap.size g w w' := by
  refine (pick_any g p n w hr hp h1 h2).mono fun e w' ⟨⟨k, hk, he⟩, hr', hb⟩ => ?_
  have hb' : But w.heap.size g w w' := hb
  have own' := hX.but hb' hg
  obtain ⟨A, n', c', xs, e1, o1, o2⟩ := id own'
  injection e1 with e1 e2 e3
  subst e1 e2 e3
  have e4 := o1.1
  have e5 := o2.1
  obtain ⟨a, ha⟩ : ∃ a, X[k]? = some a := ⟨X[k]'(by omega), List.getElem?_eq_getElem _⟩
  obtain ⟨p1, u, p2, hf⟩ := o2.2 k a ha
  have hf2 : FlsB base w' u a.2 := hf.more fun g hg => ⟨hg.1, hg.2.1⟩
  obtain ⟨A', m', d', rfl, q1, q2, q3, q4⟩ := id hf2
  exact ⟨k, a, A', m', d', hk, he, ha, (o1.cellAt (k * 2) (by omega)).trans p1, (o1.cellAt (k * 2 + 1) (by omega)).trans p2, q1, hf2, q3, own', hr', hb'⟩

theorem But.keep {g gA i : Nat} {w w' : World} {c : Value} (h : But w.heap.size g w w') (zg : gA < w.heap.size ∧ gA ≠ g) (z : w.cell? ⟨gA, i, none⟩ = some c) : w'.cell? ⟨gA, i, none⟩ = some c := by
  rw [← z]; unfold World.cell?; rw [h.block _ zg.1 zg.2]

theorem name_at {base : Nat} (g p : Nat) (v : Value) (X : List Acc) (w : World) (hr : Rdr 77 w g p) (hp : p ≤ 900000) (hX : OwnA base w v X) (hg : g < base) {gA : Nat} {c0 : Value} (z0 : w.cell? ⟨gA, 0, none⟩ = some c0) (zg : gA < w.heap.size ∧ gA ≠ g) :
    Calls Try.prog 39 #[.pointer (some ⟨g, 0, none⟩)] w.drew fun e w' => ∃ s : ByteArray, e = .returned (.string s) ∧ s.size ≤ 5 ∧ w'.cell? ⟨gA, 0, none⟩ = some c0 ∧ OwnA base w' v X ∧ But w.heap.size g w w' := by
  refine (name_any g p w.drew (hr.drewN 1) (by omega)).mono ?_
  rintro e w' ⟨⟨s, hs, rfl⟩, hr', hb⟩
  have hb' : But w.heap.size g w w' := (But.of_below (below_drewN' _ w 1)).trans hb
  exact ⟨s, rfl, hs, hb'.keep zg z0, hX.but hb' hg, hb'⟩

theorem pick_fls {base : Nat} (g p b off n c : Nat) (v : Value) (X : List Acc) (F : List ByteArray) (w : World) (hr : Rdr 77 w g p) (hp : p ≤ 1000000) (hX : OwnA base w v X) (hF : FlsB base w (.slice (some ⟨b, off, none⟩) n c) F) (hS : Short 6 F) {gA : Nat} {c0 c1 : Value} (z0 : w.cell? ⟨gA, 0, none⟩ = some c0) (z1 : w.cell? ⟨gA, 1, none⟩ = some c1) (zg : gA < w.heap.size ∧ gA ≠ g) (hg : g < base) (h1 : 1 ≤ n) (h2 : n ≤ 1000000) :
    Calls Try.prog 40 #[.pointer (some ⟨g, 0, none⟩), .int .i64 n] w.drew fun e w' => ∃ (k : Nat) (s : ByteArray), k < n ∧ e = .returned (.int .i64 k) ∧ s.size ≤ 5 ∧ w'.cell? ⟨b, off + k, none⟩ = some (.string s) ∧ w'.cell? ⟨gA, 0, none⟩ = some c0 ∧ w'.cell? ⟨gA, 1, none⟩ = some c1 ∧
      OwnA base w' v X ∧ Rdr 77 w' g (p + 1) ∧ But w.heap.size g w w' := by
  refine (pick_any g p n w.drew (hr.drewN 1) hp h1 h2).mono fun e w' ⟨⟨k, hk, he⟩, hr', hb⟩ => ?_
  have hb' : But w.heap.size g w w' := (But.of_below (below_drewN' _ w 1)).trans hb
  obtain ⟨A, m, d, e1, q1, q2, q3, q4⟩ := hF.but hb' hg
  injection e1 with e1 e2 e3
  subst e1 e2 e3
  obtain ⟨b', off', e1, _, hc⟩ := q4 (by omega)
  injection e1 with e1
  injection e1 with e1 e2
  subst e1 e2
  obtain ⟨s, hs⟩ : ∃ s, F[k]? = some s := ⟨F[k]'(by omega), List.getElem?_eq_getElem _⟩
  exact ⟨k, s, hk, he, hS.2 s (List.mem_of_getElem? hs), hc k s hs, hb'.keep zg z0, hb'.keep zg z1, hX.but hb' hg, hr', hb'⟩

set_option maxHeartbeats 1000000 in
theorem d_Unfollow (A : Option Addr) (n c : Nat) (w : World) (hc : Code w w.heap.size A n) (hnc : n ≤ c) (hn : n ≤ 1048576) :
    Calls Try.prog 17 #[.slice A n c] w fun e w' => DrawnA2 w e w' := by
  go_enter Try.func17, Try.ntmps17
  go_wp2_with fail
  refine (open_any A n c _ hc hnc hn).mono ?_
  rintro e w1 ⟨rfl, hr1, hb1⟩
  have hlt1 := hr1.lt
  go_wp2_with fail
  refine (accounts_any w.heap.size 0 _ hr1 (by omega)).mono ?_
  rintro e w2 ⟨v, X, p2, rfl, hown, hdr, hpos, hp2, hr2, hb2⟩
  have hs2 := hb2.size
  have Hown := hide hown
  obtain ⟨A1, n1, c1, xs, e1, o1, o2⟩ := id hown
  subst e1
  have e4 := o1.1
  have e5 := o2.1
  have hn7 : n1 ≤ 7 ∧ 1 ≤ n1 := by have := hdr.1; omega
  obtain ⟨gX, capX, eX, hgX, hgX2⟩ := o1.form (by omega)
  injection eX with eX1 _ eX3
  subst eX1 eX3
  have Hdr := hide hdr
  have Hb1 := hide hb1
  have Hb2 := hide hb2
  clear o1 o2 e4 e5 hown hdr hb2 hb1
  go_wp2_with fail
  refine (pick_accs2 w.heap.size p2 gX n1 c1 X _ hr2 (by omega) Hown.out hlt1 (by omega) (by omega)).mono ?_
  rintro e w4 ⟨k, a, A', n', c', hk, rfl, ha, d0, d1, hnc', hF, hFl, own4, hr4, hb4⟩
  have ham := List.mem_of_getElem? ha
  have Hown4 := hide own4
  have HF := hide hF
  have hSh := (Hdr.out.2 a ham).2
  have hsz := (Hdr.out.2 a ham).1
  have hn6 : n' ≤ 6 := by have := hSh.1; omega
  have Hb4 := hide (Hb2.out.trans (hb4.mono hs2))
  have hs4 : w1.heap.size ≤ w4.heap.size := Hb4.out.size
  have HSh := hide hSh
  clear own4 hF hb4 hSh hFl ha
  have hlt4 : w.heap.size < w4.heap.size := by omega
  have hbW : Below w4.heap.size w4 (w4.alloc (.cells #[.string a.1, .slice A' n' c'] 31)) := (Below.refl _ _).alloc (Nat.le_refl _) _
  have z0 : (w4.alloc (.cells #[.string a.1, .slice A' n' c'] 31)).cell? ⟨w4.heap.size, 0, none⟩ = some (.string a.1) := World.cell?_alloc_at _ _ _ _ rfl
  have z1 : (w4.alloc (.cells #[.string a.1, .slice A' n' c'] 31)).cell? ⟨w4.heap.size, 1, none⟩ = some (.slice A' n' c') := World.cell?_alloc_at _ _ _ _ rfl
  have zs : w4.heap.size < (w4.alloc (.cells #[.string a.1, .slice A' n' c'] 31)).heap.size := by rw [World.size_alloc]; omega
  have HownW := hide (Hown4.out.below hbW)
  have HFW := hide (HF.out.but (But.of_below hbW) hlt1)
  have HbW := hide (Hb4.out.trans ((But.of_below (g := w.heap.size) hbW).mono hs4))
  have hrW := hr4.alloc (.cells #[.string a.1, .slice A' n' c'] 31)
  have hsW := HbW.out.size
  have Hz := hide (⟨z0, z1, zs, (by omega : w4.heap.size ≠ w.heap.size)⟩ : _ ∧ _ ∧ _ ∧ _)
  clear z0 z1 zs hbW HF Hown4
  by_cases h0 : n' = 0
  · subst h0
    go_wp2_with fail
    go_region_with (go_at_call 39; refine (name_at w.heap.size (p2 + 1) _ X _ hrW (by omega) HownW.out hlt1 Hz.out.1 ⟨Hz.out.2.2.1, Hz.out.2.2.2⟩).mono ?_; rintro e w5 ⟨who, rfl, hs, d5, own5, hb5⟩)
    all_goals (try go_wp2_with fail)
    all_goals go_ret3
    all_goals exact ⟨_, X, who, a.1, rfl, DrawnA.mk own5 (Hdr.out.more (by omega)) hpos Hb1.out (HbW.out.trans (hb5.mono hsW)) hlt1, hs, hsz⟩
  · go_wp2_with fail
    refine (pick_any w.heap.size (p2 + 1) 4 _ hrW (by omega) (by omega) (by omega)).mono ?_
    rintro e w5 ⟨⟨k5, hk5, rfl⟩, hr5, hb5⟩
    have Hown5 := hide (HownW.out.but hb5 hlt1)
    have HF5 := hide (HFW.out.but hb5 hlt1)
    have Hb5 := hide (HbW.out.trans (hb5.mono hsW))
    have Hy := hide (⟨hb5.keep Hz.out.2.2 Hz.out.1, hb5.keep Hz.out.2.2 Hz.out.2.1, Nat.lt_of_lt_of_le Hz.out.2.2.1 hb5.size, Hz.out.2.2.2⟩ : _ ∧ _ ∧ _ ∧ _)
    have hs5 : w1.heap.size ≤ w5.heap.size := Hb5.out.size
    clear hb5 HFW HownW Hz hrW HbW hsW
    by_cases hk0 : 0 < k5
    · obtain ⟨b, off, hv⟩ : ∃ b off, A' = some ⟨b, off, none⟩ := by
        obtain ⟨A2, n2, c2, e2, _, _, _, q4⟩ := HF5.out
        injection e2 with e2 e3 e4
        subst e2 e3 e4
        obtain ⟨b, off, e, _⟩ := q4 (by omega)
        exact ⟨b, off, e⟩
      subst hv
      have y0 := Hy.out.1
      have y1 := Hy.out.2.1
      have y2 := Hy.out.2.2.1
      go_wp2_with fail
      go_region_with (go_at_call 40; refine (pick_fls w.heap.size (p2 + 2) b off n' c' _ X a.2 w5 hr5 (by omega) Hown5.out HF5.out HSh.out Hy.out.1 Hy.out.2.1 Hy.out.2.2 hlt1 (by omega) (by omega)).mono ?_; rintro e w6 ⟨k6, s, hk6, rfl, hs6, d6, d7, d8, own6, hr6, hb6⟩; have y6 := Nat.lt_of_lt_of_le y2 hb6.size)
      all_goals (try go_wp2_with fail)
      all_goals go_ret3
      all_goals exact ⟨_, X, s, a.1, rfl, DrawnA.mk own6 (Hdr.out.more (by omega)) hpos Hb1.out (Hb5.out.trans (hb6.mono hs5)) hlt1, hs6, hsz⟩
    · have y0 := Hy.out.1
      have y2 := Hy.out.2.2.1
      go_wp2_with fail
      go_region_with (go_at_call 39; refine (name_at w.heap.size (p2 + 2) _ X _ hr5 (by omega) Hown5.out hlt1 Hy.out.1 Hy.out.2.2).mono ?_; rintro e w6 ⟨who, rfl, hs, d6, own6, hb6⟩; have y6 := Nat.lt_of_lt_of_le y2 hb6.size)
      all_goals (try go_wp2_with fail)
      all_goals go_ret3
      all_goals exact ⟨_, X, who, a.1, rfl, DrawnA.mk own6 (Hdr.out.more (by omega)) hpos Hb1.out (Hb5.out.trans (hb6.mono hs5)) hlt1, hs, hsz⟩
end Go.Proofs.Ytohodhogbdcdmab
