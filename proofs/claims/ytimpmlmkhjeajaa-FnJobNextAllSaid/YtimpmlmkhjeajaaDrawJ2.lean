/- DrawJobValid, DrawJobNext, DrawJobRun, DrawJobNew. -/
import Derived.Test.YtimpmlmkhjeajaaZg
import Derived.Test.YtimpmlmkhjeajaaZh
import Derived.Test.YtimpmlmkhjeajaaZf
import Derived.Deep.RegionHeld3
set_option linter.unusedVariables false
set_option linter.unusedSimpArgs false
namespace Go.Proofs.Ytimpmlmkhjeajaa
open Go.RowKit

/-- A job was drawn. -/
structure DrawnJ (w : World) (i d : Int) (A : Option Addr) (n c : Nat) (L : List ByteArray) (w' : World) : Prop where
  st : Strs w' w'.heap.size A n L
  nc : n ≤ c
  jd : JDrawn i d n L
  below : Below w.heap.size w w'
theorem DrawnJ.small {w w' : World} {i d : Int} {A : Option Addr} {n c : Nat} {L : List ByteArray} (h : DrawnJ w i d A n c L w') : Small L ∧ n ≤ 13 := by
  refine ⟨fun s hs => by have := h.jd.sh.2 s hs; unfold maxLen; omega, by have h1 := h.st.1; have h2 := h.jd.sh.1; omega⟩
theorem Blk.far3 {w : World} {q p : Nat} {t : TypeId} {cs : Array Value} (h : Blk w q t cs) (hp : q ≠ p) (a b c : Value) : Blk (((w.setCell ⟨p, 0, none⟩ a).setCell ⟨p, 1, none⟩ b).setCell ⟨p, 2, none⟩ c) q t cs := ((h.far (p := ⟨p, 0, none⟩) hp a).far (p := ⟨p, 1, none⟩) hp b).far (p := ⟨p, 2, none⟩) hp c
theorem Code.up {w : World} {B B' n : Nat} {A : Option Addr} (h : Code w B A n) (hB : B ≤ B') : Code w B' A n := fun h0 => by
  obtain ⟨cb, off, e, hb, hc⟩ := h h0
  exact ⟨cb, off, e, by omega, hc⟩

set_option maxHeartbeats 1000000 in
set_option maxRecDepth 100000 in
theorem d_JobValid (A : Option Addr) (n c : Nat) (w : World) (hc : Code w w.heap.size A n) (hnc : n ≤ c) (hn : n ≤ 1048576) :
    Calls Try.prog 38 #[.slice A n c] w fun e w' => ∃ i d A1 n1 c1 L, e = .returned (.agg #[.int .i64 i, .slice A1 n1 c1, .int .i64 d]) ∧ DrawnJ w i d A1 n1 c1 L w' := by
  have hb0 := (Below.refl w.heap.size w).alloc (Nat.le_refl _) (.cells #[.int .i64 0, .slice none 0 0, .int .i64 0] 28)
  have hs0 : (w.alloc (.cells #[.int .i64 0, .slice none 0 0, .int .i64 0] 28)).heap.size = w.heap.size + 1 := by simp
  have HB0 := hide (Blk.new w 28 #[.int .i64 0, .slice none 0 0, .int .i64 0])
  have hc0 := (hc.below hb0).up (Nat.le_trans (Nat.le_succ _) (Nat.le_of_eq hs0.symm))
  have Hb0 := hide hb0
  have Hs0 := hide hs0
  have Hc0 := hide hc0
  clear hb0 hs0 hc0 hc
  go_enter Try.func38, Try.ntmps38
  go_wp2_with fail
  refine (open_any A n c _ Hc0.out hnc hn).mono ?_
  rintro e w1 ⟨rfl, hr1, hb1⟩
  have hlt1 := hr1.lt
  have Hr1 := hide hr1
  rw [Hs0.out] at hr1 hlt1 hb1 ⊢
  have HB1 := hide (HB0.out.below hb1 (by omega))
  have Hb1 := hide (Hb0.out.trans (hb1.mono (by omega)))
  clear hb1
  go_wp2_with fail
  refine (jb_any (w.heap.size + 1) 0 _ hr1 (by omega)).mono ?_
  rintro e w2 ⟨i, d, A2, n2, c2, L, p2, rfl, own2, hJ, hp2, hr2, hb2⟩
  have HB2 := hide (HB1.out.but hb2 (by omega))
  have Hb2 := hide (Hb1.out.trans (hb2.below.mono (by omega)))
  have Own2 := hide own2
  have HJ := hide hJ
  have OwnE := hide (own_job (p := w.heap.size) own2 (fun e => by have := (own2.lt _ e).1; omega) (.int .i64 i) (.slice A2 n2 c2) (.int .i64 d))
  have Hbe := hide (below_job (p := w.heap.size) Hb2.out (Nat.le_refl _) (.int .i64 i) (.slice A2 n2 c2) (.int .i64 d))
  obtain ⟨⟨x0, x1, x2⟩, y0, y1, y2⟩ := HB2.out.cells3
  have HBe := HB2.out.job (a' := .int .i64 i) (b' := .slice A2 n2 c2) (d' := .int .i64 d)
  obtain ⟨⟨e0, e1, e2⟩, _⟩ := HBe.cells3
  clear hb2 own2 hJ HBe
  go_wp2_with fail
  exact bodyPost_ret (v := .agg #[.int .i64 i, .slice A2 n2 c2, .int .i64 d]) (by simp [results, Try.results38, go_sem, e0, e1, e2]) rfl ⟨i, d, A2, n2, c2, L, rfl, Strs.of_own OwnE.out, (own_cap OwnE.out).1, HJ.out, Hbe.out⟩

theorem jm_bounds (k3 k4 : Nat) (h3 : k3 < 6) (h4 : k4 < 30) : -6 ≤ IntKind.i64.wrap ((k3 : Int) - IntKind.i64.wrap (IntKind.i64.wrap ((k4 : Int) / 29) * 6)) ∧ IntKind.i64.wrap ((k3 : Int) - IntKind.i64.wrap (IntKind.i64.wrap ((k4 : Int) / 29) * 6)) ≤ 5 := by
  have h5 : 0 ≤ (k4 : Int) / 29 ∧ (k4 : Int) / 29 ≤ 1 := by omega
  generalize (k4 : Int) / 29 = q at *
  rw [IntWalk.i64_in q (by omega), IntWalk.i64_in (q * 6) (by omega), IntWalk.i64_in _ (by omega)]
  omega

set_option maxHeartbeats 2000000 in
set_option maxRecDepth 100000 in
theorem d_JobNext (A : Option Addr) (n c : Nat) (w : World) (hc : Code w w.heap.size A n) (hnc : n ≤ c) (hn : n ≤ 1048576) :
    Calls Try.prog 26 #[.slice A n c] w fun e w' => ∃ i d A1 n1 c1 L m, e = .returned (.tuple #[.agg #[.int .i64 i, .slice A1 n1 c1, .int .i64 d], .int .i64 m]) ∧ DrawnJ w i d A1 n1 c1 L w' ∧ -6 ≤ m ∧ m ≤ 5 := by
  have hb0 := (Below.refl w.heap.size w).alloc (Nat.le_refl _) (.cells #[.int .i64 0, .slice none 0 0, .int .i64 0] 28)
  have hs0 : (w.alloc (.cells #[.int .i64 0, .slice none 0 0, .int .i64 0] 28)).heap.size = w.heap.size + 1 := by simp
  have HB0 := hide (Blk.new w 28 #[.int .i64 0, .slice none 0 0, .int .i64 0])
  have hc0 := (hc.below hb0).up (Nat.le_trans (Nat.le_succ _) (Nat.le_of_eq hs0.symm))
  have Hb0 := hide hb0
  have Hs0 := hide hs0
  have Hc0 := hide hc0
  clear hb0 hs0 hc0 hc
  go_enter Try.func26, Try.ntmps26
  go_wp2_with fail
  refine (open_any A n c _ Hc0.out hnc hn).mono ?_
  rintro e w1 ⟨rfl, hr1, hb1⟩
  have hlt1 := hr1.lt
  rw [Hs0.out] at hr1 hlt1 hb1 ⊢
  have HB1 := hide (HB0.out.below hb1 (by omega))
  have Hb1 := hide (Hb0.out.trans (hb1.mono (by omega)))
  clear hb1
  go_wp2_with fail
  refine (jb_any (w.heap.size + 1) 0 _ hr1 (by omega)).mono ?_
  rintro e w2 ⟨i, d, A2, n2, c2, L, p2, rfl, own2, hJ, hp2, hr2, hb2⟩
  have HB2 := hide ((HB1.out.but hb2 (by omega)).alloc (.cells #[.int .i64 i, .slice A2 n2 c2, .int .i64 d] 28))
  have Hb2 := hide ((Hb1.out.trans (hb2.below.mono (by omega))).alloc (by have := Hb1.out.size; have := hb2.size; omega) (.cells #[.int .i64 i, .slice A2 n2 c2, .int .i64 d] 28))
  have Own2 := hide (own2.alloc (.cells #[.int .i64 i, .slice A2 n2 c2, .int .i64 d] 28))
  have HQ2 := hide (Blk.new w2 28 #[.int .i64 i, .slice A2 n2 c2, .int .i64 d])
  have Rd2 : Hid (Rdr 125 ((w2.alloc (.cells #[.int .i64 i, .slice A2 n2 c2, .int .i64 d] 28)).drew) (w.heap.size + 1) p2) := (hr2.alloc (.cells #[.int .i64 i, .slice A2 n2 c2, .int .i64 d] 28)).drewN 1
  have HJ := hide hJ
  have hs2 : w1.heap.size ≤ w2.heap.size := hb2.size
  obtain ⟨⟨x0, x1, x2⟩, _⟩ := HQ2.out.cells3
  clear hb2 own2 hJ hr2
  go_wp2_with fail
  go_region_held3 (fun w' => w'.cell? ⟨w2.heap.size, 0, none⟩ = some (.int .i64 i) ∧ w'.cell? ⟨w2.heap.size, 1, none⟩ = some (.slice A2 n2 c2) ∧ w'.cell? ⟨w2.heap.size, 2, none⟩ = some (.int .i64 d)) (first | exact HX4.out | exact HX3.out | exact HX7.out | go_keep) (first
    | (go_at_call 59
       with_reducible refine (pick_z (w.heap.size + 1) p2 6 6 _ rfl Rd2.out (by omega) (by omega) (by omega)).mono ?_
       rintro e w3 ⟨⟨k3, hk3, rfl⟩, hr3, hb3⟩
       have HB3 := hide ((HB2.out.drewN 1).but hb3 (by omega))
       have HQ3 := hide ((HQ2.out.drewN 1).but hb3 (by omega))
       have Own3 := hide (own_but Own2.out.drew hb3 (by omega))
       have Hb3 := hide ((below_drewN Hb2.out 1).trans (hb3.below.mono (by simp; omega)))
       have hs3 : w2.heap.size + 1 ≤ w3.heap.size := by have h := hb3.size; simpa using h
       have HX3 := hide HQ3.out.cells3.1
       have Rd3 := hide hr3
       clear hb3 hr3)
    | (go_at_call 59
       with_reducible refine (pick_z (w.heap.size + 1) (p2 + 1) 30 30 _ rfl Rd3.out (by omega) (by omega) (by omega)).mono ?_
       rintro e w4 ⟨⟨k4, hk4, rfl⟩, hr4, hb4⟩
       have HB4 := hide (HB3.out.but hb4 (by omega))
       have HQ4 := hide (HQ3.out.but hb4 (by omega))
       have Own4 := hide (own_but Own3.out hb4 (by omega))
       have Hb4 := hide (Hb3.out.trans (hb4.below.mono (by omega)))
       have HX4 := hide HQ4.out.cells3.1
       obtain ⟨⟨y0, y1, y2⟩, z0, z1, z2⟩ := HB4.out.cells3
       have HX7 := hide (HQ4.out.far3 (p := w.heap.size) (show w2.heap.size ≠ w.heap.size by omega) (.int .i64 i) (.slice A2 n2 c2) (.int .i64 d)).cells3.1
       clear hb4 hr4))
  all_goals
    have Hm := hide (jm_bounds k3 k4 hk3 hk4)
    generalize IntKind.i64.wrap ((k3 : Int) - IntKind.i64.wrap (IntKind.i64.wrap ((k4 : Int) / 29) * 6)) = m at Hm ⊢
    have OwnE := hide (own_job (p := w.heap.size) Own4.out (fun e => by have := (Own4.out.lt _ e).1; omega) (.int .i64 i) (.slice A2 n2 c2) (.int .i64 d))
    have Hbe := hide (below_job (p := w.heap.size) Hb4.out (Nat.le_refl _) (.int .i64 i) (.slice A2 n2 c2) (.int .i64 d))
    have HBe := HB4.out.job (a' := .int .i64 i) (b' := .slice A2 n2 c2) (d' := .int .i64 d)
    obtain ⟨⟨e0, e1, e2⟩, _⟩ := HBe.cells3
    clear HBe
    go_wp2_with fail
    exact bodyPost_ret (v := .tuple #[.agg #[.int .i64 i, .slice A2 n2 c2, .int .i64 d], .int .i64 m]) (by simp [results, Try.results26, go_sem, e0, e1, e2]) rfl ⟨i, d, A2, n2, c2, L, m, rfl, ⟨Strs.of_own OwnE.out, (own_cap OwnE.out).1, HJ.out, Hbe.out⟩, Hm.out.1, Hm.out.2⟩

set_option maxHeartbeats 2000000 in
set_option maxRecDepth 100000 in
theorem d_JobRun (A : Option Addr) (n c : Nat) (w : World) (hc : Code w w.heap.size A n) (hnc : n ≤ c) (hn : n ≤ 1048576) :
    Calls Try.prog 29 #[.slice A n c] w fun e w' => ∃ v X i d A1 n1 c1 L m, e = .returned (.tuple #[v, .agg #[.int .i64 i, .slice A1 n1 c1, .int .i64 d], .int .i64 m]) ∧ DrawnB w v X w' ∧ DrawnJ w i d A1 n1 c1 L w' ∧ -6 ≤ m ∧ m ≤ 5 := by
  have hb0 := (Below.refl w.heap.size w).alloc (Nat.le_refl _) (.cells #[.int .i64 0, .slice none 0 0, .int .i64 0] 28)
  have hs0 : (w.alloc (.cells #[.int .i64 0, .slice none 0 0, .int .i64 0] 28)).heap.size = w.heap.size + 1 := by simp
  have HB0 := hide (Blk.new w 28 #[.int .i64 0, .slice none 0 0, .int .i64 0])
  have hc0 := (hc.below hb0).up (Nat.le_trans (Nat.le_succ _) (Nat.le_of_eq hs0.symm))
  have Hb0 := hide hb0
  have Hs0 := hide hs0
  have Hc0 := hide hc0
  clear hb0 hs0 hc0 hc
  go_enter Try.func29, Try.ntmps29
  go_wp2_with fail
  refine (open_any A n c _ Hc0.out hnc hn).mono ?_
  rintro e w1 ⟨rfl, hr1, hb1⟩
  have hlt1 := hr1.lt
  rw [Hs0.out] at hr1 hlt1 hb1 ⊢
  have HB1 := hide (HB0.out.below hb1 (by omega))
  have Hb1 := hide (Hb0.out.trans (hb1.mono (by omega)))
  clear hb1
  go_wp2_with fail
  refine (boxes_any (w.heap.size + 1) 0 _ hr1 (by omega)).mono ?_
  rintro e w9 ⟨A9, n9, c9, Y9, p9, rfl, hN9, hdr9, hp9, hr9, hb9⟩
  have HB9 := hide (HB1.out.but hb9 (by omega))
  have Hb9 := hide (Hb1.out.trans (hb9.below.mono (by omega)))
  have HN9 := hide hN9
  have Hdr9 := hide hdr9
  have hs9 : w1.heap.size ≤ w9.heap.size := hb9.size
  clear hN9 hdr9 hb9
  go_wp2_with fail
  refine (jb_any (w.heap.size + 1) p9 _ hr9 (by omega)).mono ?_
  rintro e w2 ⟨i, d, A2, n2, c2, L, p2, rfl, own2, hJ, hp2, hr2, hb2⟩
  have HB2 := hide ((HB9.out.but hb2 (by omega)).alloc (.cells #[.int .i64 i, .slice A2 n2 c2, .int .i64 d] 28))
  have Hb2 := hide ((Hb9.out.trans (hb2.below.mono (by omega))).alloc (by have := Hb9.out.size; have := hb2.size; omega) (.cells #[.int .i64 i, .slice A2 n2 c2, .int .i64 d] 28))
  have Own2 := hide (own2.alloc (.cells #[.int .i64 i, .slice A2 n2 c2, .int .i64 d] 28))
  have HN2 := hide ((HN9.out.but hb2 (by omega)).alloc (.cells #[.int .i64 i, .slice A2 n2 c2, .int .i64 d] 28))
  have HQ2 := hide (Blk.new w2 28 #[.int .i64 i, .slice A2 n2 c2, .int .i64 d])
  have Rd2 : Hid (Rdr 125 ((w2.alloc (.cells #[.int .i64 i, .slice A2 n2 c2, .int .i64 d] 28)).drew) (w.heap.size + 1) p2) := (hr2.alloc (.cells #[.int .i64 i, .slice A2 n2 c2, .int .i64 d] 28)).drewN 1
  have HJ := hide hJ
  have hs2 : w9.heap.size ≤ w2.heap.size := hb2.size
  obtain ⟨⟨x0, x1, x2⟩, _⟩ := HQ2.out.cells3
  clear hb2 own2 hJ hr2
  go_wp2_with fail
  go_region_held3 (fun w' => w'.cell? ⟨w2.heap.size, 0, none⟩ = some (.int .i64 i) ∧ w'.cell? ⟨w2.heap.size, 1, none⟩ = some (.slice A2 n2 c2) ∧ w'.cell? ⟨w2.heap.size, 2, none⟩ = some (.int .i64 d)) (first | exact HX4.out | exact HX3.out | exact HX7.out | go_keep) (first
    | (go_at_call 59
       with_reducible refine (pick_z (w.heap.size + 1) p2 6 6 _ rfl Rd2.out (by omega) (by omega) (by omega)).mono ?_
       rintro e w3 ⟨⟨k3, hk3, rfl⟩, hr3, hb3⟩
       have HB3 := hide ((HB2.out.drewN 1).but hb3 (by omega))
       have HQ3 := hide ((HQ2.out.drewN 1).but hb3 (by omega))
       have HN3 := hide ((HN2.out.drewN 1).but hb3 (by omega))
       have Own3 := hide (own_but Own2.out.drew hb3 (by omega))
       have Hb3 := hide ((below_drewN Hb2.out 1).trans (hb3.below.mono (by simp; omega)))
       have hs3 : w2.heap.size + 1 ≤ w3.heap.size := by have h := hb3.size; simpa using h
       have HX3 := hide HQ3.out.cells3.1
       have Rd3 := hide hr3
       clear hb3 hr3)
    | (go_at_call 59
       with_reducible refine (pick_z (w.heap.size + 1) (p2 + 1) 30 30 _ rfl Rd3.out (by omega) (by omega) (by omega)).mono ?_
       rintro e w4 ⟨⟨k4, hk4, rfl⟩, hr4, hb4⟩
       have HB4 := hide (HB3.out.but hb4 (by omega))
       have HQ4 := hide (HQ3.out.but hb4 (by omega))
       have HN4 := hide (HN3.out.but hb4 (by omega))
       have Own4 := hide (own_but Own3.out hb4 (by omega))
       have Hb4 := hide (Hb3.out.trans (hb4.below.mono (by omega)))
       have HX4 := hide HQ4.out.cells3.1
       obtain ⟨⟨y0, y1, y2⟩, z0, z1, z2⟩ := HB4.out.cells3
       have HX7 := hide (HQ4.out.far3 (p := w.heap.size) (show w2.heap.size ≠ w.heap.size by omega) (.int .i64 i) (.slice A2 n2 c2) (.int .i64 d)).cells3.1
       clear hb4 hr4))
  all_goals
    have Hm := hide (jm_bounds k3 k4 hk3 hk4)
    generalize IntKind.i64.wrap ((k3 : Int) - IntKind.i64.wrap (IntKind.i64.wrap ((k4 : Int) / 29) * 6)) = m at Hm ⊢
    have OwnE := hide (own_job (p := w.heap.size) Own4.out (fun e => by have := (Own4.out.lt _ e).1; omega) (.int .i64 i) (.slice A2 n2 c2) (.int .i64 d))
    have Hbe := hide (below_job (p := w.heap.size) Hb4.out (Nat.le_refl _) (.int .i64 i) (.slice A2 n2 c2) (.int .i64 d))
    have HBe := HB4.out.job (a' := .int .i64 i) (b' := .slice A2 n2 c2) (d' := .int .i64 d)
    obtain ⟨⟨e0, e1, e2⟩, _⟩ := HBe.cells3
    clear HBe
    have HNe := hide (nest_job (p := w.heap.size) HN4.out (by omega) (.int .i64 i) (.slice A2 n2 c2) (.int .i64 d))
    go_wp2_with fail
    exact bodyPost_ret (v := .tuple #[.slice A9 n9 c9, .agg #[.int .i64 i, .slice A2 n2 c2, .int .i64 d], .int .i64 m]) (by simp [results, Try.results29, go_sem, e0, e1, e2]) rfl ⟨_, bxV Y9, i, d, A2, n2, c2, L, m, rfl, ⟨A9, n9, c9, rfl, HNe.out.bxs, (own_cap HNe.out.row).1, (own_cap HNe.out.row).2, Hdr9.out, Hbe.out⟩, ⟨Strs.of_own OwnE.out, (own_cap OwnE.out).1, HJ.out, Hbe.out⟩, Hm.out.1, Hm.out.2⟩
end Go.Proofs.Ytimpmlmkhjeajaa
