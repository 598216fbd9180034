/- nameList.with, nameList.without. -/
import Derived.Test.YtohodhogbdcdmabBs
import Derived.Test.YtohodhogbdcdmabApp
import Derived.Deep.DeepMust
namespace Go.Proofs.Ytohodhogbdcdmab
open Go.RowKit

theorem str_info : (Try.prog.info? 9).map (fun i => (i.zero, i.size, i.bytes)) = some (some (.string ByteArray.empty), 1, 16) := by kernel_rfl

/-- A list of strings in memory of the call's own. -/
def OwnL (base : Nat) (w' : World) (v : Value) (L : List ByteArray) : Prop := ∃ A n c, v = .slice A n c ∧ w'.ownsRow base 9 1 (.slice A n c) n (L.map Value.string)
/-- A function hands back such a list; nothing that was there has turned. -/
def Own1 (w : World) (L : List ByteArray) (e : Ending) (w' : World) : Prop := ∃ v, e = .returned v ∧ OwnL w.heap.size w' v L ∧ Below w.heap.size w w'
/-- .. and whether it succeeds. -/
def Own2 (w : World) (o : Option (List ByteArray)) (e : Ending) (w' : World) : Prop := ∃ v, e = .returned (.tuple #[v, .bool o.isSome]) ∧ OwnL w.heap.size w' v (o.getD []) ∧ Below w.heap.size w w'

theorem OwnL.mk {base : Nat} {w' : World} {v : Value} {m : Nat} {xs : List Value} {L : List ByteArray} (h : w'.ownsRow base 9 1 v m xs) (e : xs = L.map Value.string) : OwnL base w' v L := by
  subst e
  rcases h.2 with ⟨rfl, rfl⟩ | ⟨g, cap, cur, rfl, _⟩
  · exact ⟨_, _, _, rfl, h⟩
  · exact ⟨_, _, _, rfl, h⟩

set_option maxHeartbeats 2000000 in
theorem with_any (A : Option Addr) (n c : Nat) (L : List ByteArray) (s : ByteArray) (w : World) (hL : Strs w w.heap.size A n L) (ha : Asc L) (hnc : n ≤ c) (hn : n ≤ maxLen) (hn2 : n ≤ 1000000) :
    Calls Try.prog 67 #[.slice A n c, .string s] w fun e w' => Own1 w (put L s) e w' := by
  obtain ⟨i0, hi0, hz0, hz1, hz2⟩ := info_parts str_info
  have hl := hide hL.1
  have hp : pos L s ≤ n := by have := pos_le L s; have := hl.out; omega
  have b1 : i0.bytes * (n + 1) ≤ 281474976710656 := by rw [hz2]; omega
  have b2 : n + 1 ≤ maxLen := by unfold maxLen; omega
  have b3 : 0 + pos L s ≤ maxLen := by unfold maxLen; omega
  have b4 : (0 + pos L s) * 16 ≤ 140737488355328 := by omega
  have b5 : 0 + pos L s + 1 ≤ maxLen := by unfold maxLen; omega
  have b6 : (0 + pos L s + 1) * 16 ≤ 140737488355328 := by omega
  have b7 : 0 + pos L s + 1 + (n - pos L s) ≤ maxLen := by unfold maxLen; omega
  have b8 : (0 + pos L s + 1 + (n - pos L s)) * 16 ≤ 140737488355328 := by omega
  have b9 : 0 + pos L s + (n - pos L s) ≤ maxLen := by unfold maxLen; omega
  have b10 : (0 + pos L s + (n - pos L s)) * 16 ≤ 140737488355328 := by omega
  have hU := Try.underlying61
  obtain ⟨E, hE, _, hE2⟩ := slice_to hU hi0 hz1 A n c (pos L s) (pos L s) rfl hp hnc
  obtain ⟨D, hD, _, hD2⟩ := slice_from hU hi0 hz1 A n c (pos L s) (pos L s) rfl hp hnc
  have hE2 := hide (hE2 _ _ _ hL)
  have hD2 := hide (hD2 _ _ _ hz1 hL)
  have hL := hide hL
  have ha := hide ha
  cases hm : memB L s
  · have hput := hide (put_f hm)
    have hm := hide hm
    go_enter Try.func67, Try.ntmps67
    go_wp2_with fail
    refine (place_any _ n c L s _ hL.out ha.out hn hn2).mono ?_
    rintro e w' ⟨rfl, rfl⟩
    rw [hm.out]
    go_wp2_with (first
      | (at_make
         refine wpList_make_own _ rfl (.const (.int .i64 0)) (.tmp 16) _ rfl w.heap.size 9 i0 _ 1 hU hi0 hz0 hz1 .i64 .i64 ((n : Int) + 1) (n + 1) rfl rfl (Int.natCast_succ n).symm b1 b2 (Nat.le_refl _) ?_
         intro w1 own1 gr1
         have hb1 : Below w.heap.size w w1 := (Below.refl _ _).grown gr1 (Nat.le_refl _) (by simp)
         clear gr1)
      | (at_builtin
         refine wpList_append_rd _ rfl (.tmp 18) (.tmp 21) _ rfl w.heap.size 9 i0 _ 1 16 hU hi0 hz0 hz1 hz2 rfl (by omega) _ 0 [] rfl own1 w.heap.size E (pos L s) _ ((L.take (pos L s)).map Value.string) rfl (Rd.of_strs (hE2.out.below hb1)) (one_strs _) b3 b4 hb1.size ?_
         intro v2 w2 own2 gr2 at2
         have hb2 : Below w.heap.size w w2 := Below.own hb1 gr2 own1 (Nat.le_refl _) hb1.size
         clear gr2 at2)
      | (at_builtin
         refine wpList_append_rd _ rfl (.tmp 25) (.tmp 27) _ rfl w.heap.size 9 i0 _ 1 16 hU hi0 hz0 hz1 hz2 rfl (by omega) _ (0 + pos L s) ([] ++ (L.take (pos L s)).map Value.string) rfl (own2.alloc _) (w2.heap.size + 1) (some ⟨w2.heap.size, 0, none⟩) 1 _ [Value.string s] rfl (Rd.one _ _ _) (one_strs [s]) b5 b6 (by simp; have := hb2.size; omega) ?_
         intro v3 w3 own3 gr3 at3
         have hb3 : Below w.heap.size w w3 := Below.own (hb2.alloc hb2.size _) gr3 (own2.alloc _) (Nat.le_refl _) (by simp; have := hb2.size; omega)
         clear gr3 at3)
      | (at_builtin
         refine wpList_append_rd _ rfl (.tmp 29) (.tmp 32) _ rfl w.heap.size 9 i0 _ 1 16 hU hi0 hz0 hz1 hz2 rfl (by omega) _ (0 + pos L s + 1) ([] ++ (L.take (pos L s)).map Value.string ++ [Value.string s]) rfl own3 w.heap.size D (n - pos L s) _ ((L.drop (pos L s)).map Value.string) rfl (Rd.of_strs (hD2.out.below hb3)) (one_strs _) b7 b8 hb3.size ?_
         intro v4 w4 own4 gr4 at4
         have hb4 : Below w.heap.size w w4 := Below.own hb3 gr4 own3 (Nat.le_refl _) hb3.size
         clear gr4 at4))
    go_ret
    exact ⟨v4, rfl, OwnL.mk own4 (by rw [hput.out]; simp), hb4⟩
  · have hput := hide (put_t hm)
    have hm := hide hm
    go_enter Try.func67, Try.ntmps67
    go_wp2_with fail
    refine (place_any _ n c L s _ hL.out ha.out hn hn2).mono ?_
    rintro e w' ⟨rfl, rfl⟩
    rw [hm.out]
    go_wp2_with (first
      | (at_make
         refine wpList_make_own _ rfl (.const (.int .i64 0)) (.tmp 16) _ rfl w.heap.size 9 i0 _ 1 hU hi0 hz0 hz1 .i64 .i64 ((n : Int) + 1) (n + 1) rfl rfl (Int.natCast_succ n).symm b1 b2 (Nat.le_refl _) ?_
         intro w1 own1 gr1
         have hb1 : Below w.heap.size w w1 := (Below.refl _ _).grown gr1 (Nat.le_refl _) (by simp)
         clear gr1)
      | (at_builtin
         refine wpList_append_rd _ rfl (.tmp 18) (.tmp 21) _ rfl w.heap.size 9 i0 _ 1 16 hU hi0 hz0 hz1 hz2 rfl (by omega) _ 0 [] rfl own1 w.heap.size E (pos L s) _ ((L.take (pos L s)).map Value.string) rfl (Rd.of_strs (hE2.out.below hb1)) (one_strs _) b3 b4 hb1.size ?_
         intro v2 w2 own2 gr2 at2
         have hb2 : Below w.heap.size w w2 := Below.own hb1 gr2 own1 (Nat.le_refl _) hb1.size
         clear gr2 at2)
      | (at_builtin
         refine wpList_append_rd _ rfl (.tmp 29) (.tmp 32) _ rfl w.heap.size 9 i0 _ 1 16 hU hi0 hz0 hz1 hz2 rfl (by omega) _ (0 + pos L s) ([] ++ (L.take (pos L s)).map Value.string) rfl own2 w.heap.size D (n - pos L s) _ ((L.drop (pos L s)).map Value.string) rfl (Rd.of_strs (hD2.out.below hb2)) (one_strs _) b9 b10 hb2.size ?_
         intro v4 w4 own4 gr4 at4
         have hb4 : Below w.heap.size w w4 := Below.own hb2 gr4 own2 (Nat.le_refl _) hb2.size
         clear gr4 at4))
    go_ret
    exact ⟨v4, rfl, OwnL.mk own4 (by rw [hput.out, List.nil_append, ← List.map_append, List.take_append_drop]), hb4⟩

set_option maxHeartbeats 2000000 in
theorem without_any (A : Option Addr) (n c k : Nat) (L : List ByteArray) (w : World) (hL : Strs w w.heap.size A n L) (hk : k < n) (hnc : n ≤ c) (hn : n ≤ maxLen) (hn2 : n ≤ 1000000) :
    Calls Try.prog 52 #[.slice A n c, .int .i64 k] w fun e w' => Own1 w (dropAt L k) e w' := by
  obtain ⟨i0, hi0, hz0, hz1, hz2⟩ := info_parts str_info
  have hl := hide hL.1
  obtain ⟨m, rfl⟩ : ∃ m, n = m + 1 := ⟨n - 1, by omega⟩
  have b1 : i0.bytes * m ≤ 281474976710656 := by rw [hz2]; omega
  have b2 : m ≤ maxLen := by unfold maxLen; omega
  have b3 : 0 + k ≤ maxLen := by unfold maxLen; omega
  have b4 : (0 + k) * 16 ≤ 140737488355328 := by omega
  have b9 : 0 + k + (m - k) ≤ maxLen := by unfold maxLen; omega
  have b10 : (0 + k + (m - k)) * 16 ≤ 140737488355328 := by omega
  have hU := Try.underlying61
  obtain ⟨E, hE, _, hE2⟩ := slice_to hU hi0 hz1 A (m + 1) c k k rfl (by omega) hnc
  obtain ⟨D, hD, _, hD2⟩ := slice_from hU hi0 hz1 A (m + 1) c (k + 1) ((k : Int) + 1) (by omega) (by omega) hnc
  rw [show m + 1 - (k + 1) = m - k by omega] at hD hD2
  have hE2 := hide (hE2 _ _ _ hL)
  have hD2 := hide (hD2 _ _ _ hz1 hL)
  have hL := hide hL
  go_enter Try.func52, Try.ntmps52
  go_wp2_with (first
      | (at_make
         refine wpList_make_own _ rfl (.const (.int .i64 0)) (.tmp 8) _ rfl w.heap.size 9 i0 _ 1 hU hi0 hz0 hz1 .i64 .i64 (m : Int) m rfl rfl rfl b1 b2 (Nat.le_refl _) ?_
         intro w1 own1 gr1
         have hb1 : Below w.heap.size w w1 := (Below.refl _ _).grown gr1 (Nat.le_refl _) (by simp)
         clear gr1)
      | (at_builtin
         refine wpList_append_rd _ rfl (.tmp 10) (.tmp 13) _ rfl w.heap.size 9 i0 _ 1 16 hU hi0 hz0 hz1 hz2 rfl (by omega) _ 0 [] rfl own1 w.heap.size E k _ ((L.take k).map Value.string) rfl (Rd.of_strs (hE2.out.below hb1)) (one_strs _) b3 b4 hb1.size ?_
         intro v2 w2 own2 gr2 at2
         have hb2 : Below w.heap.size w w2 := Below.own hb1 gr2 own1 (Nat.le_refl _) hb1.size
         clear gr2 at2)
      | (at_builtin
         refine wpList_append_rd _ rfl (.tmp 15) (.tmp 19) _ rfl w.heap.size 9 i0 _ 1 16 hU hi0 hz0 hz1 hz2 rfl (by omega) _ (0 + k) ([] ++ (L.take k).map Value.string) rfl own2 w.heap.size D (m - k) _ ((L.drop (k + 1)).map Value.string) rfl (Rd.of_strs (hD2.out.below hb2)) (one_strs _) b9 b10 hb2.size ?_
         intro v4 w4 own4 gr4 at4
         have hb4 : Below w.heap.size w w4 := Below.own hb2 gr4 own2 (Nat.le_refl _) hb2.size
         clear gr4 at4))
  go_ret
  exact ⟨v4, rfl, OwnL.mk own4 (by rw [List.nil_append, ← List.map_append]; rfl), hb4⟩
end Go.Proofs.Ytohodhogbdcdmab
