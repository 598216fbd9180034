/- Drawing boxes. -/
import Derived.Test.YtfncmkmhdddmiaaBp
import Derived.Test.YtfncmkmhdddmiaaDraw1
set_option linter.unusedVariables false
set_option linter.unusedSimpArgs false
namespace Go.Proofs.Ytfncmkmhdddmiaa
open Go.RowKit

theorem own_leni {w : World} {base m : Nat} {e : TypeId} {v : Value} {L : List Int} (h : w.ownsRow base e 1 v m (L.map (Value.int .i64))) : L.length = m := by have := h.1; rw [List.length_map, Nat.mul_one] at this; exact this
set_option maxHeartbeats 2000000 in
set_option maxRecDepth 100000 in
theorem ids_any (g p : Nat) (w : World) (hr : Rdr 80 w g p) (hp : p ≤ 900000) :
    Calls Try.prog 44 #[.pointer (some ⟨g, 0, none⟩)] w fun e w' => ∃ v L p', e = .returned v ∧ OwnI w.heap.size w' v L ∧ L.length ≤ 6 ∧ p' ≤ p + 20 ∧ Rdr 80 w' g p' ∧ But w.heap.size g w w' := by
  obtain ⟨i1, hi1, hy0, hy1, hy2⟩ := info_parts' int_info
  have hU := Try.underlying23
  have hg := hr.lt
  have Own0 : Hid ((w.alloc (.cells #[] 3)).ownsRow w.heap.size 3 1 (.slice (some ⟨w.heap.size, 0, none⟩) 0 0) 0 (([] : List Int).map (Value.int .i64))) := World.ownsRow_lit w #[] 0 (Nat.le_refl _) (Nat.zero_le _) rfl
  have Hb0 := hide (But.of_below (g := g) ((Below.refl w.heap.size w).alloc (Nat.le_refl _) (.cells #[] 3)))
  go_enter Try.func44, Try.ntmps44
  go_wp2_with fail
  refine (pick_any g p 7 _ (hr.alloc _) (by omega) (by omega) (by omega)).mono ?_
  rintro e w2 ⟨⟨N, hN, rfl⟩, hr2, hb2⟩
  have Hb2 := hide (Hb0.out.trans (hb2.mono (by simp)))
  have Own2 := hide (own_but Own0.out hb2 hg)
  clear hb2
  go_wp2_with fail
  refine (pick_any g (p + 1) 10 _ hr2 (by omega) (by omega) (by omega)).mono ?_
  rintro e w3 ⟨⟨k10, hk10, rfl⟩, hr3, hb3⟩
  have Hb3 := hide (Hb2.out.trans (hb3.mono Hb2.out.size))
  have Own3 := hide (own_but Own2.out hb3 hg)
  clear hb3
  go_wp2_with fail
  go_loopw [3, 5, 6] (fun v id i wr => ∃ (k p' : Nat) (z : Int) (L : List Int) (A : Option Addr) (c : Nat), k ≤ N ∧ i = .int .i64 k ∧ id = .int .i64 z ∧ 30 - 3 * (k : Int) ≤ z ∧ z ≤ 40 ∧ v = .slice A k c ∧ Hid (wr.ownsRow w.heap.size 3 1 (.slice A k c) k (L.map (Value.int .i64))) ∧ p' ≤ p + 4 + 2 * k ∧ Rdr 80 wr g p' ∧ Hid (But w.heap.size g w wr)) (fun _ _ i _ => N - (intOf i).toNat)
  case atStart => exact ⟨0, p + 1 + 1, 30 + k10, [], some ⟨w.heap.size, 0, none⟩, 0, Nat.zero_le _, rfl, rfl, by omega, by omega, rfl, Own3.out, by omega, hr3, Hb3.out⟩
  case round =>
    obtain ⟨k, p', z, L, A4, c4, hk, rfl, rfl, hz1, hz2, rfl, hown, hp', hr5, hbut⟩ := hrel
    have hbs := hbut.out.size
    by_cases hlt : k < N
    · have b1 : k + 1 ≤ maxLen := by unfold maxLen; omega
      have b2 : (k + 1) * 8 ≤ 140737488355328 := by omega
      go_wp2_with (first
       | (at_builtin
          refine wpList_append_rd _ rfl (.tmp 18) (.tmp 20) _ rfl w.heap.size 3 i1 _ 1 8 hU hi1 hy0 hy1 hy2 rfl (by omega) (.slice A4 k c4) k (L.map (Value.int .i64)) rfl (hown.out.alloc _) (wr.heap.size + 1) (some ⟨wr.heap.size, 0, none⟩) 1 _ [Value.int .i64 z] rfl (Rd.one _ _ _) (one_ints [z]) b1 b2 (by simp; omega) ?_
          intro v7 w7 own7 gr7 at7
          rw [ints_snoc L z] at own7
          obtain ⟨A7, c7, e7⟩ := own_slice own7
          subst e7
          have Hown7 := hide own7
          have Hr7 := hide ((hr5.alloc _).own gr7 (hown.out.alloc _) hg)
          have Hb7 := hide ((hbut.out.alloc hbs _).own gr7 (hown.out.alloc _) (Nat.le_refl _) (by simp; omega))
          clear gr7 at7 own7)
       | fail)
      refine (pick_any g p' 3 _ Hr7.out (by omega) (by omega) (by omega)).mono ?_
      rintro e w8 ⟨⟨k8, hk8, rfl⟩, hr8, hb8⟩
      have Hown8 := hide (own_but Hown7.out hb8 hg)
      have Hb8 := hide (Hb7.out.trans (hb8.mono Hb7.out.size))
      clear hb8
      go_wp2_with fail
      go_roundw
      case rel => exact ⟨k + 1, p' + 1, z - 1 - k8, _, A7, c7, by omega, by go_num, by go_num, by omega, by omega, rfl, Hown8.out, by omega, hr8, Hb8.out⟩
      case measure => simp [intOf]; omega
    · obtain rfl : k = N := by omega
      have hlL : Hid (L.length = k) := own_leni hown.out
      by_cases hN1 : 1 < k
      · go_wp2_with fail
        refine (pick_any g p' 30 _ hr5 (by omega) (by omega) (by omega)).mono ?_
        rintro e w5 ⟨⟨k5, hk5, rfl⟩, hr6, hb6⟩
        have Hown5 := hide (own_but hown.out hb6 hg)
        have Hb5 := hide (hbut.out.trans (hb6.mono hbs))
        clear hb6
        by_cases h5 : k5 = 0
        · subst h5
          obtain ⟨gX, capX, eX, hgX, hgX2⟩ := Hown5.out.form (by omega)
          injection eX with eX1 _ eX3
          subst eX1 eX3
          obtain ⟨a, ha⟩ : ∃ a, L[0]? = some a := ⟨L[0]'(by have := hlL.out; omega), List.getElem?_eq_getElem _⟩
          obtain ⟨b, hb⟩ : ∃ b, L[1]? = some b := ⟨L[1]'(by have := hlL.out; omega), List.getElem?_eq_getElem _⟩
          have c0 : w5.cell? ⟨gX, 0, none⟩ = some (.int .i64 a) := (Hown5.out.cellAt 0 (by omega)).trans (by rw [List.getElem?_map, ha]; rfl)
          have c1 : w5.cell? ⟨gX, 1, none⟩ = some (.int .i64 b) := (Hown5.out.cellAt 1 (by omega)).trans (by rw [List.getElem?_map, hb]; rfl)
          have f0 : w5.frozen? ⟨gX, 0, none⟩ = false := Hown5.out.frozenAt 0
          have hst := Hown5.out.stored 0 (.int .i64 b)
          rw [show (L.map (Value.int .i64)).set 0 (.int .i64 b) = (L.set 0 b).map (Value.int .i64) by rw [List.map_set]] at hst
          have Hst := hide hst.1
          have Hbs := hide (Hb5.out.trans ⟨hst.2.os, hst.2.tape, hst.2.output, hst.2.size, fun q hq _ => hst.2.block q (by have := Hb5.out.size; omega) (fun e => by injection e; omega)⟩)
          have Hrs := hide (hr6.below (B := g + 1) ⟨hst.2.os, hst.2.tape, hst.2.output, hst.2.size, fun q hq => hst.2.block q (by have := hr6.lt; omega) (fun e => by injection e; omega)⟩ (by omega))
          clear hst ha hb
          go_wp2_with fail
          go_ret
          exact ⟨_, _, p' + 1, rfl, ⟨_, _, _, rfl, Hst.out⟩, by rw [List.length_set]; have := hlL.out; omega, by omega, Hrs.out, Hbs.out⟩
        · have hk50 : ((k5 : Int) == 0) = false := by rw [beq_eq_false_iff_ne]; omega
          go_wp2_with fail
          go_ret
          exact ⟨_, _, p' + 1, rfl, ⟨_, _, _, rfl, Hown5.out⟩, by have := hlL.out; omega, by omega, hr6, Hb5.out⟩
      · go_wp2_with fail
        go_ret
        exact ⟨_, rfl, L, ⟨_, _, _, rfl, hown.out⟩, by have := hlL.out; omega, p', by omega, hr5, hbut.out⟩
end Go.Proofs.Ytfncmkmhdddmiaa
