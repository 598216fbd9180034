/- Lines drawn. -/
import Derived.Test.YtmofnmklodmkmaaGreatDoorDrR2
import Derived.Deep.RegionWith
set_option linter.unusedVariables false
set_option linter.unusedSimpArgs false
namespace Go.Proofs.YtmofnmklodmkmaaGreatDoor
open Go.RowKit

theorem text_len (p : Int) (r : Rec) : (textL p r).length ≤ 40 := by
  by_cases h : textL p r = []
  · rw [h]; simp
  obtain ⟨h1, h2, h3⟩ := textL_ne h
  rw [h3]
  have d1 := (@decL_len p.toNat).2
  have d2 := (@decL_len (chk (join4 p.toNat r))).2
  have hj : (lineL p.toNat r).length = (decL p.toNat).length + (wds r).1.length + (wds r).2.1.length + (wds r).2.2.length + (decL (chk (join4 p.toNat r))).length + 4 := by
    unfold lineL
    rw [List.length_append, List.length_cons]
    generalize (decL (chk (join4 p.toNat r))).length = z
    unfold join4
    simp only [List.length_append, List.length_cons]
    omega
  rw [hj]
  have hw : (wds r).1.length ≤ 8 ∧ (wds r).2.1.length ≤ 5 ∧ (wds r).2.2.length ≤ 5 := by
    rcases re_ways h2 with ⟨i, s, rfl, hi, hs⟩ | ⟨i, d, rfl, hi, hd⟩ | ⟨s, t, rfl | rfl, hs, ht, _⟩
    · have e1 := (@decL_len i.toNat).2
      have e2 := (nvB_size hs).2
      exact ⟨by show 4 ≤ 8; omega, by show (decL i.toNat).length ≤ 5; omega, by show s.data.toList.length ≤ 5; simp; omega⟩
    · have e1 := (@decL_len i.toNat).2
      have e2 := (@decL_len d.toNat).2
      exact ⟨by show 5 ≤ 8; omega, by show (decL i.toNat).length ≤ 5; omega, by show (decL d.toNat).length ≤ 5; omega⟩
    · have e1 := (nvB_size hs).2
      have e2 := (nvB_size ht).2
      exact ⟨by show 6 ≤ 8; omega, by show s.data.toList.length ≤ 5; simp; omega, by show t.data.toList.length ≤ 5; simp; omega⟩
    · have e1 := (nvB_size hs).2
      have e2 := (nvB_size ht).2
      exact ⟨by show 8 ≤ 8; omega, by show s.data.toList.length ≤ 5; simp; omega, by show t.data.toList.length ≤ 5; simp; omega⟩
  omega
theorem rtxt_size (p : Int) (r : Rec) : (rtxt p r).size ≤ 40 := by unfold rtxt; rw [tb_size]; exact text_len p r

set_option maxHeartbeats 2000000 in
set_option maxRecDepth 100000 in
theorem ch_any (g p : Nat) (s : ByteArray) (w : World) (hs : s.size ≤ 1000) (hr : Rdr 73 w g p) (hp : p ≤ 500000) :
    Calls Tryz.prog 33 #[.pointer (some ⟨g, 0, none⟩), .string s] w fun e w' => ∃ t, e = .returned (.string t) ∧ t.size ≤ 1100 ∧ But w.heap.size g w w' := by
  have hgl := hr.lt
  go_enter Tryz.func33, Tryz.ntmps33
  cases he : emB s
  · have q0 : s.toList.isEmpty = false := by rw [emB_eq]; exact he
    have hs0 : 1 ≤ s.size := by
      rcases Nat.eq_zero_or_pos s.size with h | h
      · have : s = ⟨#[]⟩ := ba_ext (by rw [List.eq_nil_of_length_eq_zero (l := s.data.toList) (by simpa using h)])
        rw [emB_iff.2 this] at he
        cases he
      · exact h
    clear he
    go_wp2_with fail
    refine (pick_any g p s.size _ hr (by omega) (by omega) (by omega)).mono ?_
    rintro e w1 ⟨⟨k, hk, rfl⟩, hr1, hb1⟩
    have hz1 : w.heap.size ≤ w1.heap.size := hb1.size
    have Hb1 := hide hb1
    clear hb1
    go_wp2_with fail
    refine (pick_any g (p + 1) 6 _ hr1 (by omega) (by omega) (by omega)).mono ?_
    rintro e w2 ⟨⟨k2, hk2, rfl⟩, hr2, hb2⟩
    have Hb2 := hide (Hb1.out.trans (hb2.mono (by omega)))
    have hz2 : w1.heap.size ≤ w2.heap.size := hb2.size
    have hlt2 := hr2.lt
    have HR2 := hide hr2
    clear hb2 hr1
    by_cases h0 : k2 = 0
    · subst h0
      have hk1 : (k : Int) + 1 ≤ (s.size : Int) := by omega
      have hk5 : 0 ≤ (k : Int) + 1 := by omega
      have hw : IntKind.i64.wrap ((k : Int) + 1) = (k : Int) + 1 := IntWalk.i64_in _ (by omega)
      have hk0 : (0 : Int) ≤ (k : Int) := by omega
      have hk3 : (k : Int) ≤ (s.size : Int) := by omega
      have hrun : ∀ W : World, (Instr.slice 9 (.string s) (some (.int .i64 ((k : Int) + 1))) none none).run Tryz.prog W = .ok (.string (s.extract (k + 1) s.size)) W := fun W => by go_simp
      have x1 : (s.extract 0 k).size ≤ 1000 := by simp [ByteArray.size_extract]; omega
      have x2 : (s.extract (k + 1) s.size).size ≤ 1000 := by simp [ByteArray.size_extract]; omega
      have RdA : Hid (Rdr 73 ((w2.alloc (.cells #[.string ⟨#[49]⟩, .string ⟨#[32]⟩, .string ⟨#[120]⟩, .string ⟨#[10]⟩, .string ⟨#[48]⟩] 9)).drew) g (p + 1 + 1)) := (HR2.out.alloc (.cells #[.string ⟨#[49]⟩, .string ⟨#[32]⟩, .string ⟨#[120]⟩, .string ⟨#[10]⟩, .string ⟨#[48]⟩] 9)).drewN 1
      have BA : Hid (Blk ((w2.alloc (.cells #[.string ⟨#[49]⟩, .string ⟨#[32]⟩, .string ⟨#[120]⟩, .string ⟨#[10]⟩, .string ⟨#[48]⟩] 9)).drew) w2.heap.size 9 #[.string ⟨#[49]⟩, .string ⟨#[32]⟩, .string ⟨#[120]⟩, .string ⟨#[10]⟩, .string ⟨#[48]⟩]) := Blk.new w2 9 #[.string ⟨#[49]⟩, .string ⟨#[32]⟩, .string ⟨#[120]⟩, .string ⟨#[10]⟩, .string ⟨#[48]⟩]
      have HbA := hide (Hb2.out.trans (But.of_below (((Below.refl _ w2).alloc (by omega) (.cells #[.string ⟨#[49]⟩, .string ⟨#[32]⟩, .string ⟨#[120]⟩, .string ⟨#[10]⟩, .string ⟨#[48]⟩] 9)).drew)))
      go_wp2_with fail
      go_region_with (
        (go_at_call 32
         with_reducible refine (of_lit g (p + 1 + 1) w2.heap.size 5 5 #[.string ⟨#[49]⟩, .string ⟨#[32]⟩, .string ⟨#[120]⟩, .string ⟨#[10]⟩, .string ⟨#[48]⟩] _ RdA.out (by omega) BA.out (by omega) rfl (by omega) (by omega) (by decide)).mono ?_
         rintro e w3 ⟨⟨t, ht, rfl⟩, hr3, hb3⟩
         have Hb3 := hide (HbA.out.trans (hb3.mono (by simp; omega)))
         clear hb3
         skip))
      all_goals
        go_wp2_with fail
        go_ret
        exact ⟨_, rfl, by simp [ByteArray.size_append, ByteArray.size_extract]; omega, Hb3.out⟩
    by_cases h1 : k2 = 1
    · subst h1
      go_wp2_with fail
      go_ret
      exact ⟨_, rfl, by simp [ByteArray.size_extract]; omega, Hb2.out⟩
    · go_wp2_with fail
      go_ret
      exact ⟨_, rfl, by omega, Hb2.out⟩
  · have q0 : s.toList.isEmpty = true := by rw [emB_eq]; exact he
    clear he
    go_wp2_with fail
    go_ret
    exact ⟨_, rfl, by decide, But.of_below (Below.refl _ _)⟩

end Go.Proofs.YtmofnmklodmkmaaGreatDoor
