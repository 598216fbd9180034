/- The next record of a journal: the program's. -/
import Derived.Test.YtmofnmklodmkmaaGreatDoorCtl
import Derived.Test.YtmofnmklodmkmaaGreatDoorIrg
import Derived.Test.YtmofnmklodmkmaaGreatDoorJww
import Derived.Test.YtmofnmklodmkmaaGreatDoorJr7
set_option linter.unusedVariables false
set_option linter.unusedSimpArgs false
namespace Go.Proofs.YtmofnmklodmkmaaGreatDoor
open Go.RowKit
/-- What the next record gives. -/
def NRec (T : Txt) (p : Int) (w : World) (e : Ending) (w' : World) : Prop :=
  ((∃ why : Int, e = .returned (.tuple #[rV 0 0 0 ⟨#[]⟩ ⟨#[]⟩, .string ⟨#[]⟩, .iface 57 (.agg #[.int .i64 why])]) ∧ ∀ (O : List Rec) (k : Nat), p = (O.length : Int) + 1 → jg O k T = (O, k, why))
    ∨ ∃ (r : Rec) (n : Nat), e = .returned (.tuple #[reV r, .string (tb (T.drop n)), .nilIface]) ∧ 1 ≤ n ∧ n ≤ T.length ∧ ∀ (O : List Rec) (k : Nat), p = (O.length : Int) + 1 → jg O k T = jg (O ++ [r]) (k + n) (T.drop n))
  ∧ Below w.heap.size w w'

set_option maxHeartbeats 2000000 in
set_option maxRecDepth 100000 in
theorem i_NR (s : ByteArray) (p : Int) (w : World) (hs : s.size ≤ 1048576) (hne : s.data.toList ≠ []) (hV : Vw w) :
    Calls Tryz.prog 30 #[.string s, .int .i64 p] w fun e w' => NRec s.data.toList p w e w' := by
  have HS := hide hs
  have HV := hide hV
  have HNE := hide hne
  have HB0 := hide (Blk.new w 28 #[.int .i64 0, .int .i64 0, .int .i64 0, .string ⟨#[]⟩, .string ⟨#[]⟩])
  have Hb0 := hide ((Below.refl w.heap.size w).alloc (Nat.le_refl _) (.cells #[.int .i64 0, .int .i64 0, .int .i64 0, .string ⟨#[]⟩, .string ⟨#[]⟩] 28))
  clear hs hV hne
  go_enter Tryz.func30, Tryz.ntmps30
  go_wp2_with fail
  refine (cut_call s HS.out _ (HV.out.on Hb0.out)).mono ?_
  rintro e w1 ⟨hC, n1, hw1⟩
  have HB1 : Hid (Blk w1 w.heap.size 28 #[.int .i64 0, .int .i64 0, .int .i64 0, .string ⟨#[]⟩, .string ⟨#[]⟩]) := by rw [hw1]; exact HB0.out
  have Hb1 : Hid (Below w.heap.size w w1) := by rw [hw1]; exact ⟨Hb0.out.os, Hb0.out.tape, Hb0.out.output, Hb0.out.size, Hb0.out.block⟩
  have hz1 : w.heap.size + 1 ≤ w1.heap.size := by rw [hw1]; show _ ≤ (w.alloc _).heap.size; simp
  clear hw1 HB0 Hb0
  rcases hC with ⟨rfl, hno⟩ | ⟨l, rest, rfl, hdr, hnl⟩
  · have HH : Hid (∀ (O : List Rec) (k : Nat), p = (O.length : Int) + 1 → jg O k s.data.toList = (O, k, jTorn)) := fun O k _ => jg_torn HNE.out hno
    clear hno
    have Hbe := hide (below_put5 Hb1.out (Nat.le_refl _) (.int .i64 0) (.int .i64 0) (.int .i64 0) (.string ⟨#[]⟩) (.string ⟨#[]⟩))
    obtain ⟨⟨c0, c1, c2, c3, c4⟩, f0, f1, f2, f3, f4⟩ := HB1.out.cells5
    go_wp2_with fail
    exact bodyPost_ret (v := .tuple #[rV 0 0 0 ⟨#[]⟩ ⟨#[]⟩, .string ⟨#[]⟩, .iface 57 (.agg #[.int .i64 1])]) (by simp [results, Tryz.results30, go_sem, c0, c1, c2, c3, c4]) rfl ⟨.inl ⟨1, rfl, HH.out⟩, Hbe.out⟩
  · have hlen : l.length + 1 ≤ s.size := by have := congrArg List.length hdr; simp at this; omega
    have hrest : s.data.toList.drop (l.length + 1) = rest := by rw [hdr]; simp
    have hes : (tb l).size ≤ 1048576 := by rw [tb_size]; have := HS.out; omega
    have HDR := hide hdr
    have HNL := hide hnl
    have HR := hide hrest
    have HES := hide hes
    have HLEN := hide hlen
    clear hdr hnl hrest hes hlen
    go_wp2_with fail
    refine (i_RF _ _ HES.out (HV.out.on Hb1.out)).mono ?_
    rintro e w2 ⟨rfl, hb2⟩
    rw [tb_data]
    have HB2 := hide (HB1.out.below hb2 (by omega))
    have Hb2 := hide (Hb1.out.trans (hb2.mono (by omega)))
    have hz2 : w.heap.size + 1 ≤ w2.heap.size := Nat.le_trans hz1 hb2.size
    clear hb2
    rcases ho : fromL l with _ | ⟨p2, r1, r2, r3, r4, r5⟩
    · have HH : Hid (∀ (O : List Rec) (k : Nat), p = (O.length : Int) + 1 → jg O k s.data.toList = (O, k, jBad)) := fun O k _ => by
        have h := jg_line (out := O) (n := k) (rest := rest) HNL.out
        rw [← HDR.out] at h
        rw [ho] at h
        exact h
      have hv : fromV none = .tuple #[.int .i64 0, rV 0 0 0 ⟨#[]⟩ ⟨#[]⟩, .bool false] := rfl
      rw [hv]
      have HB3 := hide (HB2.out.alloc (rC 0 0 0 ⟨#[]⟩ ⟨#[]⟩))
      have Hb3 := hide (Hb2.out.alloc (by omega) (rC 0 0 0 ⟨#[]⟩ ⟨#[]⟩))
      clear ho hv
      have Hbe := hide (below_put5 Hb3.out (Nat.le_refl _) (.int .i64 0) (.int .i64 0) (.int .i64 0) (.string ⟨#[]⟩) (.string ⟨#[]⟩))
      obtain ⟨⟨c0, c1, c2, c3, c4⟩, f0, f1, f2, f3, f4⟩ := HB3.out.cells5
      go_wp2_with fail
      exact bodyPost_ret (v := .tuple #[rV 0 0 0 ⟨#[]⟩ ⟨#[]⟩, .string ⟨#[]⟩, .iface 57 (.agg #[.int .i64 2])]) (by simp [results, Tryz.results30, go_sem, c0, c1, c2, c3, c4]) rfl ⟨.inl ⟨2, rfl, HH.out⟩, Hbe.out⟩
    · have hv : fromV (some (p2, r1, r2, r3, r4, r5)) = .tuple #[.int .i64 p2, rV r1 r2 r3 r4 r5, .bool true] := rfl
      rw [hv]
      have HB3 := hide (HB2.out.alloc (rC r1 r2 r3 r4 r5))
      have Hb3 := hide (Hb2.out.alloc (by omega) (rC r1 r2 r3 r4 r5))
      by_cases hp : p2 = p
      · have HH : Hid (∀ (O : List Rec) (k : Nat), p = (O.length : Int) + 1 → jg O k s.data.toList = jg (O ++ [(r1, r2, r3, r4, r5)]) (k + (l.length + 1)) (s.data.toList.drop (l.length + 1))) := fun O k hO => by
          have h := jg_line (out := O) (n := k) (rest := rest) HNL.out
          rw [← HDR.out] at h
          rw [ho] at h
          refine h.trans ?_
          show (if _ then _ else _) = _
          rw [if_pos (by rw [hp]; exact hO), HR.out]
        subst hp
        have HX3 := Blk.new w2 28 #[.int .i64 r1, .int .i64 r2, .int .i64 r3, .string r4, .string r5]
        obtain ⟨⟨l0, l1, l2, l3, l4⟩, _⟩ := HX3.cells5
        obtain ⟨⟨c0, c1, c2, c3, c4⟩, f0, f1, f2, f3, f4⟩ := HB3.out.cells5
        have Hbe := hide (below_put5 Hb3.out (Nat.le_refl _) (.int .i64 r1) (.int .i64 r2) (.int .i64 r3) (.string r4) (.string r5))
        clear ho hv HX3
        go_wp2_with fail
        exact bodyPost_ret (v := .tuple #[rV r1 r2 r3 r4 r5, .string (tb rest), .nilIface]) (by simp [results, Tryz.results30, go_sem, c0, c1, c2, c3, c4]) rfl ⟨.inr ⟨(r1, r2, r3, r4, r5), l.length + 1, by rw [HR.out], by omega, by have := HLEN.out; simp; omega, HH.out⟩, Hbe.out⟩
      · have HH : Hid (∀ (O : List Rec) (k : Nat), p = (O.length : Int) + 1 → jg O k s.data.toList = (O, k, jBad)) := fun O k hO => by
          have h := jg_line (out := O) (n := k) (rest := rest) HNL.out
          rw [← HDR.out] at h
          rw [ho] at h
          refine h.trans ?_
          show (if _ then _ else _) = _
          rw [if_neg (by rw [← hO]; exact hp)]
        clear ho hv
        have Hbe := hide (below_put5 Hb3.out (Nat.le_refl _) (.int .i64 0) (.int .i64 0) (.int .i64 0) (.string ⟨#[]⟩) (.string ⟨#[]⟩))
        obtain ⟨⟨c0, c1, c2, c3, c4⟩, f0, f1, f2, f3, f4⟩ := HB3.out.cells5
        go_wp2_with fail
        exact bodyPost_ret (v := .tuple #[rV 0 0 0 ⟨#[]⟩ ⟨#[]⟩, .string ⟨#[]⟩, .iface 57 (.agg #[.int .i64 2])]) (by simp [results, Tryz.results30, go_sem, c0, c1, c2, c3, c4]) rfl ⟨.inl ⟨2, rfl, HH.out⟩, Hbe.out⟩
end Go.Proofs.YtmofnmklodmkmaaGreatDoor
