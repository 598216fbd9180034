/- Drawing posts: l91Posts. -/
import Derived.Test.YtfncmkmhdddmiabLink
import Derived.Test.YtfncmkmhdddmiabDrawP
set_option linter.unusedVariables false
set_option linter.unusedSimpArgs false
namespace Go.Proofs.Ytfncmkmhdddmiab
open Go.RowKit

set_option maxHeartbeats 2000000 in
theorem posts_any (g p : Nat) (w : World) (hr : Rdr 73 w g p) (hp : p ≤ 900000) :
    Calls Try.prog 40 #[.pointer (some ⟨g, 0, none⟩)] w fun e w' => ∃ v X p', e = .returned v ∧ OwnP w.heap.size w' v X ∧ PDrawn 13 X ∧ p' ≤ p + 50 ∧ Rdr 73 w' g p' ∧ But w.heap.size g w w' := by
  obtain ⟨i1, hi1, hy0, hy1, hy2⟩ := info_parts' post_info
  have hU := Try.underlying23
  have hg := hr.lt
  have own0 : (w.alloc (.cells #[] 31)).ownsRow w.heap.size 31 2 (.slice (some ⟨w.heap.size, 0, none⟩) 0 0) 0 (pcells []) := World.ownsRow_lit w #[] 0 (Nat.le_refl _) (Nat.zero_le _) rfl
  have Own0 := hide own0
  have Hb0 := hide (But.of_below (g := g) ((Below.refl w.heap.size w).alloc (Nat.le_refl _) (.cells #[] 31)))
  clear own0
  go_enter Try.func40, Try.ntmps40
  go_wp2_with fail
  refine (pick_any g p 7 _ (hr.alloc _) (by omega) (by omega) (by omega)).mono ?_
  rintro e w2 ⟨⟨k7, hk7, rfl⟩, hr2, hb2⟩
  have Hb2 := hide (Hb0.out.trans (hb2.mono (by simp)))
  have Own2 := hide (own_but Own0.out hb2 hg)
  clear hb2
  go_wp2_with fail
  refine (pick_any g (p + 1) 16 _ hr2 (by omega) (by omega) (by omega)).mono ?_
  rintro e w3 ⟨⟨k16, hk16, rfl⟩, hr3, hb3⟩
  have Hb3 := hide (Hb2.out.trans (hb3.mono Hb2.out.size))
  have Own3 := hide (own_but Own2.out hb3 hg)
  clear hb3
  by_cases h16 : k16 = 0
  · subst h16
    go_wp2_with fail
    refine (pick_any g (p + 1 + 1) 2 _ hr3 (by omega) (by omega) (by omega)).mono ?_
    rintro e w3' ⟨⟨k2, hk2, rfl⟩, hr3', hb3'⟩
    have Hb3' := hide (Hb3.out.trans (hb3'.mono Hb3.out.size))
    have Own3' := hide (own_but Own3.out hb3' hg)
    clear hb3'
    go_wp2_with fail
    have hN12 : (12 : Int) + (k2 : Int) = ((12 + k2 : Nat) : Int) := by omega
    rw [hN12]
    obtain ⟨N, hN⟩ : ∃ N, N = 12 + k2 := ⟨_, rfl⟩
    have hN13 : N ≤ 13 := by omega
    rw [← hN]
    clear hN hN12
    refine (pick_any g (p + 1 + 1 + 1) 3 _ hr3' (by omega) (by omega) (by omega)).mono ?_
    rintro e w4 ⟨⟨k3, hk3, rfl⟩, hr4, hb4⟩
    have Hb4 := hide (Hb3'.out.trans (hb4.mono Hb3'.out.size))
    have Own4 := hide (own_but Own3'.out hb4 hg)
    clear hb4
    go_wp2_with fail
    go_loopw [3, 5, 6] (fun v id i wr => ∃ (k p' : Nat) (z : Int) (X : List Pst) (A : Option Addr) (c : Nat), k ≤ N ∧ i = .int .i64 k ∧ id = .int .i64 z ∧ 1 ≤ z ∧ z ≤ 3 + 2 * k ∧ v = .slice A k c ∧ wr.ownsRow w.heap.size 31 2 (.slice A k c) k (pcells X) ∧ Hid (PDrawn k X) ∧ p' ≤ p + 4 + 2 * k ∧ Rdr 73 wr g p' ∧ Hid (But w.heap.size g w wr)) (fun _ _ i _ => N - (intOf i).toNat)
    case atStart => exact ⟨0, (p + 1 + 1 + 1) + 1, 1 + k3, [], some ⟨w.heap.size, 0, none⟩, 0, Nat.zero_le _, rfl, rfl, by omega, by omega, rfl, Own4.out, PDrawn.nil 0, by omega, hr4, Hb4.out⟩
    case round =>
      obtain ⟨k, p', z, X, A4, c4, hk, rfl, rfl, hz1, hz2, rfl, hown, hdr, hp', hr5, hbut⟩ := hrel
      have Hown := hide hown
      have hbs := hbut.out.size
      clear hown
      by_cases hlt : k < N
      · go_wp2_with fail
        with_reducible refine (of_lit g p' wr.heap.size _ _ _ _ (hr5.alloc _) (by omega) (by exact Blk.new wr _ _) (by omega) ?hn (by omega) (by omega) ?hs).mono ?_
        case hn => rfl
        case hs => rfl
        rintro e w5 ⟨⟨s, hs, rfl⟩, hr6, hb6⟩
        have Hown5 := hide (own_but (Hown.out.alloc _) hb6 hg)
        have Hb5 := hide (hbut.out.trans ((But.of_below ((Below.refl _ _).alloc hbs _)).trans (hb6.mono (by simp; omega))))
        have hs5 := Hb5.out.size
        have b1 : k + 1 ≤ maxLen := by unfold maxLen; omega
        have b2 : (k + 1) * 24 ≤ 140737488355328 := by omega
        clear hb6
        go_wp2_with (
          (at_builtin
           refine wpList_append_rd _ rfl (.tmp 24) (.tmp 30) _ rfl w.heap.size 31 i1 _ 2 24 hU hi1 hy0 hy1 hy2 rfl (by omega) (.slice A4 k c4) k (pcells X) rfl (Hown5.out.alloc _) (w5.heap.size + 1) (some ⟨w5.heap.size, 0, none⟩) 1 _ [Value.int .i64 z, Value.string s] rfl (rd_two _ _ _ _) (by intro u hu; simp at hu; rcases hu with rfl | rfl <;> rfl) b1 b2 (by simp; omega) ?_
           intro v7 w7 own7 gr7 at7
           have hE : pcells X ++ [Value.int .i64 z, Value.string s] = pcells (X ++ [(z, s)]) := by rw [pcells_app]; rfl
           rw [hE] at own7
           obtain ⟨A7, c7, e7⟩ := own_slice own7
           subst e7
           have Hown7 := hide own7
           have Hr7 := hide ((hr6.alloc _).own gr7 (Hown5.out.alloc _) hg)
           have Hb7 := hide ((Hb5.out.alloc hs5 _).own gr7 (Hown5.out.alloc _) (Nat.le_refl _) (by simp; omega))
           clear gr7 at7 own7 hE))
        refine (pick_any g (p' + 1) 2 _ Hr7.out (by omega) (by omega) (by omega)).mono ?_
        rintro e w8 ⟨⟨k8, hk8, rfl⟩, hr8, hb8⟩
        have Hown8 := hide (own_but Hown7.out hb8 hg)
        have Hb8 := hide (Hb7.out.trans (hb8.mono Hb7.out.size))
        have Hdr8 : Hid (PDrawn (k + 1) (X ++ [(z, s)])) := hdr.out.snoc (by omega) (by omega) hs
        clear hb8
        go_wp2_with fail
        go_roundw
        case rel => exact ⟨k + 1, p' + 1 + 1, z + 1 + k8, _, A7, c7, by omega, by go_num, by go_num, by omega, by omega, rfl, Hown8.out, Hdr8.out, by omega, hr8, Hb8.out⟩
        case measure => simp [intOf]; omega
      · obtain rfl : k = N := by omega
        by_cases hN : 1 < k
        · go_wp2_with fail
          refine (pick_any g p' 30 _ hr5 (by omega) (by omega) (by omega)).mono ?_
          rintro e w5 ⟨⟨k5, hk5, rfl⟩, hr6, hb6⟩
          have Hown5 := hide (own_but Hown.out hb6 hg)
          have Hb5 := hide (hbut.out.trans (hb6.mono hbs))
          clear hb6
          by_cases h5 : k5 = 0
          · subst h5
            obtain ⟨gX, capX, eX, hgX, hgX2⟩ := Hown5.out.form (by omega)
            injection eX with eX1 _ eX3
            subst eX1 eX3
            have hlX : X.length = k := (Psts.of_own Hown5.out).1
            obtain ⟨a, ha⟩ : ∃ a, X[0]? = some a := ⟨X[0]'(by omega), List.getElem?_eq_getElem _⟩
            obtain ⟨b, hb⟩ : ∃ b, X[1]? = some b := ⟨X[1]'(by omega), List.getElem?_eq_getElem _⟩
            have hll : (pcells X).length = k * 2 := by rw [pcells_len, hlX]
            have c0 : w5.cell? ⟨gX, 0, none⟩ = some (.int .i64 a.1) := (Hown5.out.cellAt 0 (by omega)).trans (pcells_at ha).1
            have c2 : w5.cell? ⟨gX, 2, none⟩ = some (.int .i64 b.1) := (Hown5.out.cellAt 2 (by omega)).trans (pcells_at hb).1
            have f2 : w5.frozen? ⟨gX, 2, none⟩ = false := Hown5.out.frozenAt 2
            have hst := OwnP.set0 Hown5.out hb a.1
            have hda := hdr.out.2 a (List.mem_of_getElem? ha)
            have Hd := hide (hdr.out.set0 hb hda.1 hda.2.1)
            have Hst := hide hst.1
            have Hbs := hide (Hb5.out.trans ⟨hst.2.os, hst.2.tape, hst.2.output, hst.2.size, fun q hq _ => hst.2.block q (by have := Hb5.out.size; omega) (fun e => by injection e; omega)⟩)
            have Hrs := hide (hr6.below (B := g + 1) ⟨hst.2.os, hst.2.tape, hst.2.output, hst.2.size, fun q hq => hst.2.block q (by have := hr6.lt; omega) (fun e => by injection e; omega)⟩ (by omega))
            clear hst hda ha hb hll hlX
            go_wp2_with fail
            go_ret
            exact ⟨_, _, p' + 1, rfl, ⟨_, _, _, rfl, Hst.out⟩, Hd.out.more (by omega), by omega, Hrs.out, Hbs.out⟩
          · have hk50 : ((k5 : Int) == 0) = false := by rw [beq_eq_false_iff_ne]; omega
            go_wp2_with fail
            go_ret
            exact ⟨_, _, p' + 1, rfl, ⟨_, _, _, rfl, Hown5.out⟩, hdr.out.more (by omega), by omega, hr6, Hb5.out⟩
        · go_wp2_with fail
          go_ret
          exact ⟨_, rfl, X, ⟨_, _, _, rfl, Hown.out⟩, hdr.out.more (by omega), p', by omega, hr5, hbut.out⟩
  · have hk160 : ((k16 : Int) == 0) = false := by rw [beq_eq_false_iff_ne]; omega
    clear h16
    obtain ⟨N, hN⟩ : ∃ N, N = k7 := ⟨_, rfl⟩
    have hN13 : N ≤ 13 := by omega
    rw [← hN]
    clear hN
    go_wp2_with fail
    refine (pick_any g (p + 1 + 1) 3 _ hr3 (by omega) (by omega) (by omega)).mono ?_
    rintro e w4 ⟨⟨k3, hk3, rfl⟩, hr4, hb4⟩
    have Hb4 := hide (Hb3.out.trans (hb4.mono Hb3.out.size))
    have Own4 := hide (own_but Own3.out hb4 hg)
    clear hb4
    go_wp2_with fail
    go_loopw [3, 5, 6] (fun v id i wr => ∃ (k p' : Nat) (z : Int) (X : List Pst) (A : Option Addr) (c : Nat), k ≤ N ∧ i = .int .i64 k ∧ id = .int .i64 z ∧ 1 ≤ z ∧ z ≤ 3 + 2 * k ∧ v = .slice A k c ∧ wr.ownsRow w.heap.size 31 2 (.slice A k c) k (pcells X) ∧ Hid (PDrawn k X) ∧ p' ≤ p + 4 + 2 * k ∧ Rdr 73 wr g p' ∧ Hid (But w.heap.size g w wr)) (fun _ _ i _ => N - (intOf i).toNat)
    case atStart => exact ⟨0, (p + 1 + 1) + 1, 1 + k3, [], some ⟨w.heap.size, 0, none⟩, 0, Nat.zero_le _, rfl, rfl, by omega, by omega, rfl, Own4.out, PDrawn.nil 0, by omega, hr4, Hb4.out⟩
    case round =>
      obtain ⟨k, p', z, X, A4, c4, hk, rfl, rfl, hz1, hz2, rfl, hown, hdr, hp', hr5, hbut⟩ := hrel
      have Hown := hide hown
      have hbs := hbut.out.size
      clear hown
      by_cases hlt : k < N
      · go_wp2_with fail
        with_reducible refine (of_lit g p' wr.heap.size _ _ _ _ (hr5.alloc _) (by omega) (by exact Blk.new wr _ _) (by omega) ?hn (by omega) (by omega) ?hs).mono ?_
        case hn => rfl
        case hs => rfl
        rintro e w5 ⟨⟨s, hs, rfl⟩, hr6, hb6⟩
        have Hown5 := hide (own_but (Hown.out.alloc _) hb6 hg)
        have Hb5 := hide (hbut.out.trans ((But.of_below ((Below.refl _ _).alloc hbs _)).trans (hb6.mono (by simp; omega))))
        have hs5 := Hb5.out.size
        have b1 : k + 1 ≤ maxLen := by unfold maxLen; omega
        have b2 : (k + 1) * 24 ≤ 140737488355328 := by omega
        clear hb6
        go_wp2_with (
          (at_builtin
           refine wpList_append_rd _ rfl (.tmp 24) (.tmp 30) _ rfl w.heap.size 31 i1 _ 2 24 hU hi1 hy0 hy1 hy2 rfl (by omega) (.slice A4 k c4) k (pcells X) rfl (Hown5.out.alloc _) (w5.heap.size + 1) (some ⟨w5.heap.size, 0, none⟩) 1 _ [Value.int .i64 z, Value.string s] rfl (rd_two _ _ _ _) (by intro u hu; simp at hu; rcases hu with rfl | rfl <;> rfl) b1 b2 (by simp; omega) ?_
           intro v7 w7 own7 gr7 at7
           have hE : pcells X ++ [Value.int .i64 z, Value.string s] = pcells (X ++ [(z, s)]) := by rw [pcells_app]; rfl
           rw [hE] at own7
           obtain ⟨A7, c7, e7⟩ := own_slice own7
           subst e7
           have Hown7 := hide own7
           have Hr7 := hide ((hr6.alloc _).own gr7 (Hown5.out.alloc _) hg)
           have Hb7 := hide ((Hb5.out.alloc hs5 _).own gr7 (Hown5.out.alloc _) (Nat.le_refl _) (by simp; omega))
           clear gr7 at7 own7 hE))
        refine (pick_any g (p' + 1) 2 _ Hr7.out (by omega) (by omega) (by omega)).mono ?_
        rintro e w8 ⟨⟨k8, hk8, rfl⟩, hr8, hb8⟩
        have Hown8 := hide (own_but Hown7.out hb8 hg)
        have Hb8 := hide (Hb7.out.trans (hb8.mono Hb7.out.size))
        have Hdr8 : Hid (PDrawn (k + 1) (X ++ [(z, s)])) := hdr.out.snoc (by omega) (by omega) hs
        clear hb8
        go_wp2_with fail
        go_roundw
        case rel => exact ⟨k + 1, p' + 1 + 1, z + 1 + k8, _, A7, c7, by omega, by go_num, by go_num, by omega, by omega, rfl, Hown8.out, Hdr8.out, by omega, hr8, Hb8.out⟩
        case measure => simp [intOf]; omega
      · obtain rfl : k = N := by omega
        by_cases hN : 1 < k
        · go_wp2_with fail
          refine (pick_any g p' 30 _ hr5 (by omega) (by omega) (by omega)).mono ?_
          rintro e w5 ⟨⟨k5, hk5, rfl⟩, hr6, hb6⟩
          have Hown5 := hide (own_but Hown.out hb6 hg)
          have Hb5 := hide (hbut.out.trans (hb6.mono hbs))
          clear hb6
          by_cases h5 : k5 = 0
          · subst h5
            obtain ⟨gX, capX, eX, hgX, hgX2⟩ := Hown5.out.form (by omega)
            injection eX with eX1 _ eX3
            subst eX1 eX3
            have hlX : X.length = k := (Psts.of_own Hown5.out).1
            obtain ⟨a, ha⟩ : ∃ a, X[0]? = some a := ⟨X[0]'(by omega), List.getElem?_eq_getElem _⟩
            obtain ⟨b, hb⟩ : ∃ b, X[1]? = some b := ⟨X[1]'(by omega), List.getElem?_eq_getElem _⟩
            have hll : (pcells X).length = k * 2 := by rw [pcells_len, hlX]
            have c0 : w5.cell? ⟨gX, 0, none⟩ = some (.int .i64 a.1) := (Hown5.out.cellAt 0 (by omega)).trans (pcells_at ha).1
            have c2 : w5.cell? ⟨gX, 2, none⟩ = some (.int .i64 b.1) := (Hown5.out.cellAt 2 (by omega)).trans (pcells_at hb).1
            have f2 : w5.frozen? ⟨gX, 2, none⟩ = false := Hown5.out.frozenAt 2
            have hst := OwnP.set0 Hown5.out hb a.1
            have hda := hdr.out.2 a (List.mem_of_getElem? ha)
            have Hd := hide (hdr.out.set0 hb hda.1 hda.2.1)
            have Hst := hide hst.1
            have Hbs := hide (Hb5.out.trans ⟨hst.2.os, hst.2.tape, hst.2.output, hst.2.size, fun q hq _ => hst.2.block q (by have := Hb5.out.size; omega) (fun e => by injection e; omega)⟩)
            have Hrs := hide (hr6.below (B := g + 1) ⟨hst.2.os, hst.2.tape, hst.2.output, hst.2.size, fun q hq => hst.2.block q (by have := hr6.lt; omega) (fun e => by injection e; omega)⟩ (by omega))
            clear hst hda ha hb hll hlX
            go_wp2_with fail
            go_ret
            exact ⟨_, _, p' + 1, rfl, ⟨_, _, _, rfl, Hst.out⟩, Hd.out.more (by omega), by omega, Hrs.out, Hbs.out⟩
          · have hk50 : ((k5 : Int) == 0) = false := by rw [beq_eq_false_iff_ne]; omega
            go_wp2_with fail
            go_ret
            exact ⟨_, _, p' + 1, rfl, ⟨_, _, _, rfl, Hown5.out⟩, hdr.out.more (by omega), by omega, hr6, Hb5.out⟩
        · go_wp2_with fail
          go_ret
          exact ⟨_, rfl, X, ⟨_, _, _, rfl, Hown.out⟩, hdr.out.more (by omega), p', by omega, hr5, hbut.out⟩
end Go.Proofs.Ytfncmkmhdddmiab
