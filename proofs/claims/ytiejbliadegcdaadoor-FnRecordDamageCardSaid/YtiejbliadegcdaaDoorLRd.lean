/- Walk of FnRecordDamage. -/
import Derived.Test.YtiejbliadegcdaaDoorDrR3
import Derived.Test.YtiejbliadegcdaaDoorIrb
import Derived.Laws.IdiomStrings
set_option linter.unusedVariables false
set_option linter.unusedSimpArgs false
namespace Go.Proofs.YtiejbliadegcdaaDoor
open Go.RowKit Go.BigFrame

/-- The bytes of a text in a block of their own. -/
structure Byt (w W : World) (l : Txt) (c : Nat) : Prop where
  below : Below w.heap.size w W
  size : W.heap.size = w.heap.size + 1
  cell : ∀ j b, l[j]? = some b → W.cell? ⟨w.heap.size, j, none⟩ = some (.int .u8 (b.toNat : Int))
  free : ∀ j, j < l.length → W.frozen? ⟨w.heap.size, j, none⟩ = false
theorem bytes_of (w : World) (s : ByteArray) : ∃ c W, (convert 9 22 (.string s)).run Tryd.prog w = .ok (.slice (some ⟨w.heap.size, 0, none⟩) s.size c) W ∧ Byt w W s.data.toList c := by
  refine ⟨_, _, run_bytes_of_string w _ _ 5 s (by kernel_rfl) Tryd.underlying22 (by kernel_rfl), ?_⟩
  generalize grownCap w s.size 0 5 = cap
  refine ⟨(Below.refl _ w).drew.alloc (Nat.le_refl _) _, by simp, ?_, ?_⟩
  · intro j b hj
    have h := World.cell?_alloc_mark w.drew (bytesRow s cap) 5 ((bytesRow s cap).size, (bytesRow s cap).size + 1) j
    refine h.trans ?_
    have hj1 := (List.getElem?_eq_some_iff.1 hj).1
    unfold bytesRow
    rw [Array.getElem?_append_left (by simpa using hj1), Array.getElem?_map]
    rw [Array.getElem?_toList] at hj
    rw [hj]
    rfl
  · intro j hj
    refine (World.frozen?_alloc_mark w.drew (bytesRow s cap) 5 _ _ j).trans ?_
    have : j < (bytesRow s cap).size := by unfold bytesRow; simp at hj ⊢; omega
    simp; omega
theorem bytes_back {w W : World} {l : Txt} {c q : Nat} {x : UInt8} {v : Int} (h : Byt w W l c) (hq : l[q]? = some x) (hv : v = ((x + 1).toNat : Int)) :
    (convert 22 9 (.slice (some ⟨w.heap.size, 0, none⟩) l.length c)).run Tryd.prog (W.setCell ⟨w.heap.size, q, none⟩ (.int .u8 v)) = .ok (.string (tb (l.set q (x + 1)))) (W.setCell ⟨w.heap.size, q, none⟩ (.int .u8 v)) := by
  subst hv
  have := run_convert_bytes_back (P := Tryd.prog) (W.setCell ⟨w.heap.size, q, none⟩ (.int .u8 ((x + 1).toNat : Int))) 22 9 5 ⟨w.heap.size, 0, none⟩ c (l.set q (x + 1)) Tryd.underlying22 (by kernel_rfl) (by kernel_rfl) ?_
  · rw [List.length_set] at this
    exact this
  · intro j hj
    rw [List.length_set] at hj
    rw [add_at, Nat.zero_add]
    have hcq := h.cell q x hq
    by_cases e : j = q
    · subst e
      rw [List.getElem_set_self]
      exact World.cell?_setCell_same' _ _ _ (by rw [hcq]; rfl)
    · rw [List.getElem_set_ne (fun e' => e e'.symm)]
      have hc := h.cell j l[j] (List.getElem?_eq_getElem _)
      rw [← hc]
      exact World.cell?_setCell_other _ _ _ _ (by intro e'; injection e' with _ e2 _; exact e e2.symm)

set_option maxHeartbeats 1000000 in
set_option maxRecDepth 100000 in
theorem FnRecordDamage_walk (w : World) (A : Option Addr) (n c : Nat) (hc : Code w w.heap.size A n) (hnc : n ≤ c) (hm : n ≤ maxLen) (A0 : Option Addr) (n0 c0 : Nat) (hc0 : Code w w.heap.size A0 n0) (hnc0 : n0 ≤ c0) (hm0 : n0 ≤ maxLen) (hV : Vw w) :
    Calls Tryd.prog 5 #[.slice A n c, .slice A0 n0 c0] w fun e w' => e = .returned (.bool true) ∧ Below w.heap.size w w' := by
  have HVw := hide hV
  clear hV
  by_cases h : 1048576 < n
  · unfold maxLen at hm hm0
    go_enter Tryd.func5, Tryd.ntmps5
    go_wp2
    go_ret
    exact ⟨rfl, Below.refl _ _⟩
  by_cases h0 : 1048576 < n0
  · unfold maxLen at hm hm0
    go_enter Tryd.func5, Tryd.ntmps5
    go_wp2
    go_ret
    exact ⟨rfl, Below.refl _ _⟩
  go_enter Tryd.func5, Tryd.ntmps5
  go_wp2_with fail
  refine (d_RecordText A n c w hc hnc (by omega)).mono ?_
  rintro e w1 ⟨p, k, i, d, s, t, rfl, hp1, hp2, hD, hb1⟩
  have HS : Hid (s.size ≤ maxLen) := by have := hD.s9; show s.size ≤ maxLen; unfold maxLen; omega
  have HT : Hid (t.size ≤ maxLen) := by have := hD.t9; show t.size ≤ maxLen; unfold maxLen; omega
  have HX1 := hide (Blk.new w1 24 #[.int .i64 k, .int .i64 i, .int .i64 d, .string s, .string t])
  have Hb1 := hide (hb1.alloc hb1.size (rC k i d s t))
  have hz1 : w.heap.size ≤ w1.heap.size := hb1.size
  obtain ⟨⟨l0, l1, l2, l3, l4⟩, _⟩ := HX1.out.cells5
  clear hc hb1
  go_wp2_with fail
  refine (i_RT p k i d s t _ HS.out HT.out (HVw.out.on Hb1.out).tw).mono ?_
  rintro e w2 ⟨rfl, hb2⟩
  have HX2 := hide (HX1.out.below hb2 (by simp))
  have Hb2 := hide (Hb1.out.trans (hb2.mono (by simp; omega)))
  have hz2 : w1.heap.size + 1 ≤ w2.heap.size := by have h := hb2.size; simpa using h
  clear hb2 l0 l1 l2 l3 l4
  obtain ⟨⟨l0, l1, l2, l3, l4⟩, _⟩ := HX2.out.cells5
  go_wp2_with fail
  refine (s_RT p k i d s t _ HS.out HT.out).mono ?_
  rintro e w3 ⟨rfl, hb3⟩
  have HX3 := hide (HX2.out.below hb3 (by omega))
  have Hb3 := hide (Hb2.out.trans (hb3.mono (by omega)))
  have hz3 : w2.heap.size ≤ w3.heap.size := hb3.size
  clear hb3 l0 l1 l2 l3 l4
  have htl : (rtxt p (k, i, d, s, t)).data.toList = textL p (k, i, d, s, t) := tb_data _
  have hT40 := rtxt_size p (k, i, d, s, t)
  obtain ⟨T, hT⟩ : ∃ T, rtxt p (k, i, d, s, t) = T := ⟨_, rfl⟩
  rw [hT] at htl hT40 ⊢
  have HTL := hide htl
  clear hT htl
  cases he : emB T
  rotate_left
  · have q0 : T.toList.isEmpty = true := by rw [emB_eq]; exact he
    clear he
    go_wp2_with fail
    go_ret
    exact ⟨rfl, Hb3.out⟩
  have q0 : T.toList.isEmpty = false := by rw [emB_eq]; exact he
  have hne : textL p (k, i, d, s, t) ≠ [] := by
    rw [← HTL.out]
    intro h
    unfold emB at he
    rw [h] at he
    cases he
  have HNE := hide hne
  clear he hne
  have hT1 : 1 ≤ T.size := by
    rcases Nat.eq_zero_or_pos T.size with h0 | h0
    · exact absurd (List.eq_nil_of_length_eq_zero (l := T.data.toList) (by simpa using h0)) (by rw [HTL.out]; exact HNE.out)
    · exact h0
  have hn0 : (0 : Int) < (T.size : Int) := by omega
  obtain ⟨q, hq, hqT⟩ : ∃ q : Nat, (n0 : Int) % (T.size : Int) = (q : Int) ∧ q < T.size := ⟨n0 % T.size, by simp, Nat.mod_lt _ hT1⟩
  obtain ⟨x, hx⟩ : ∃ x, T.data.toList[q]? = some x := ⟨_, List.getElem?_eq_getElem (by simpa using hqT)⟩
  obtain ⟨c4, w4, hcv, hby⟩ := bytes_of w3 T
  have hback := bytes_back (v := ((x.toNat : Int) + 1) % 256) hby hx (by rw [UInt8.toNat_add]; simp)
  rw [show T.data.toList.length = T.size by simp] at hback
  have k0 := hby.cell q x hx
  have k1 := hby.free q (by simpa using hqT)
  have hz4 := hby.size
  have hset : T.data.toList.set q (x + 1) = T.data.toList.take q ++ (x + 1) :: T.data.toList.drop (q + 1) := by
    rw [List.set_eq_take_append_cons_drop, if_pos (by simpa using hqT)]
  have hold : T.data.toList = T.data.toList.take q ++ x :: T.data.toList.drop (q + 1) := by
    have := List.set_eq_take_append_cons_drop (l := T.data.toList) (i := q) (a := x)
    rw [if_pos (by simpa using hqT)] at this
    rw [← this]
    obtain ⟨h1, h2⟩ := List.getElem?_eq_some_iff.1 hx
    rw [← h2, List.set_getElem_self]
  have hdm : fromL (T.data.toList.set q (x + 1)) = none := by
    rw [hset]
    have hl := ln_of HNE.out
    rw [← HTL.out, hold] at hl
    exact ln_damage hl
  have HDM : Hid (fromL (tb (T.data.toList.set q (x + 1))).data.toList = none) := by show _ = _; rw [tb_data]; exact hdm
  have hsz : (tb (T.data.toList.set q (x + 1))).size ≤ 1048576 := by rw [tb_size, List.length_set]; simp; omega
  clear hset hold hdm
  obtain ⟨U, hU⟩ : ∃ U, tb (T.data.toList.set q (x + 1)) = U := ⟨_, rfl⟩
  rw [hU] at hback hsz HDM
  clear hU
  have Hb4 := hide (Hb3.out.trans (hby.below.mono (by omega)))
  have Hb5 := hide (Hb4.out.setCell (p := ⟨w3.heap.size, q, none⟩) (by show _ ≤ w3.heap.size; omega) (.int .u8 (((x.toNat : Int) + 1) % 256)))
  have hv0 : fromV none = .tuple #[.int .i64 0, rV 0 0 0 ⟨#[]⟩ ⟨#[]⟩, .bool false] := rfl
  have HV0 := hide hv0
  clear hby hv0
  go_wp2_with fail
  refine (i_RF U _ hsz (HVw.out.on Hb5.out)).mono ?_
  rintro e w6 ⟨rfl, hb6⟩
  rw [HDM.out, HV0.out]
  have Hb6 := hide ((Hb5.out.trans (hb6.mono (by simp; omega))).alloc (by have := hb6.size; simp at this; omega) (rC 0 0 0 ⟨#[]⟩ ⟨#[]⟩))
  clear hb6
  go_wp2_with fail
  go_ret
  exact ⟨rfl, Hb6.out⟩
end Go.Proofs.YtiejbliadegcdaaDoor
