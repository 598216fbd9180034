/- recordsValid, JournalText: the program's. -/
import Derived.Test.YtmofnmklodmkmaaGreatDoorIrt
import Derived.Test.YtmofnmklodmkmaaGreatDoorJt
import Derived.Test.YtmofnmklodmkmaaGreatDoorBld
set_option linter.unusedVariables false
set_option linter.unusedSimpArgs false
namespace Go.Proofs.YtmofnmklodmkmaaGreatDoor
open Go.RowKit

set_option maxHeartbeats 2000000 in
set_option maxRecDepth 100000 in
theorem i_ROK (A : Option Addr) (n c : Nat) (X : List Rec) (w : World) (hX : Rcs w w.heap.size A n X) (hS : RSmall X) (hn : n ≤ maxLen) :
    Calls Tryz.prog 24 #[.slice A n c] w fun e w' => e = .returned (.bool (jB X)) ∧ Below w.heap.size w w' := by
  unfold maxLen at hn
  have hl := hide hX.1
  have HX := hide hX
  have HS := hide hS
  clear hX hS
  go_enter Tryz.func24, Tryz.ntmps24
  by_cases h30 : 30 < n
  · have H : Hid (jB X = false) := by
      show _ = _
      unfold jB
      rw [decide_eq_false (by have := hl.out; omega), Bool.and_false]
    have h30' : (30 : Int) < (n : Int) := by omega
    go_wp2_with fail
    go_ret
    exact ⟨by rw [H.out]; rfl, Below.refl _ _⟩
  · have h30' : ¬ (30 : Int) < (n : Int) := by omega
    go_wp2_with fail
    go_loopw [10] (fun v wr => ∃ k : Nat, k ≤ n ∧ v = .int .i64 k ∧ Hid (Below w.heap.size w wr) ∧ Hid (∀ a ∈ X.take k, reB a = true)) (fun v _ => n - (intOf v).toNat)
    case atStart => exact ⟨0, Nat.zero_le _, rfl, Below.refl _ _, fun a h => by simp at h⟩
    case round =>
      obtain ⟨k, hk, rfl, hbr, hall⟩ := hrel
      rename_i wr
      by_cases hlt : k < n
      · obtain ⟨a, ha⟩ : ∃ a, X[k]? = some a := ⟨X[k]'(by have := hl.out; omega), List.getElem?_eq_getElem _⟩
        have hsm := HS.out a (List.mem_of_getElem? ha)
        obtain ⟨g, off, rfl, hg, c0, c1, c2, c3, c4⟩ := (HX.out.below hbr.out).at' ha
        have hts : X.take (k + 1) = X.take k ++ [a] := by rw [List.take_add_one, ha]; rfl
        have Ha := hide ha
        have Hts := hide hts
        obtain ⟨r1, r2, r3, r4, r5⟩ := a
        have HSM := hide hsm
        have Hb2 := hide (hbr.out.alloc hbr.out.size (rC r1 r2 r3 r4 r5))
        have HQ := Blk.new wr 28 #[.int .i64 r1, .int .i64 r2, .int .i64 r3, .string r4, .string r5]
        obtain ⟨⟨l0, l1, l2, l3, l4⟩, _⟩ := HQ.cells5
        clear HQ ha hts hsm
        go_wp2_with fail
        refine (i_RV r1 r2 r3 r4 r5 _ HSM.out.1 HSM.out.2).mono ?_
        rintro e w2 ⟨rfl, hb2⟩
        have Hb3 := hide (Hb2.out.trans (hb2.mono Hb2.out.size))
        clear hb2 c0 c1 c2 c3 c4 l0 l1 l2 l3 l4
        cases hv : reB (r1, r2, r3, r4, r5)
        · have H : Hid (jB X = false) := by
            show _ = _
            cases hj : jB X
            · rfl
            · have := (jB_iff.1 hj).1 _ (List.mem_of_getElem? Ha.out)
              rw [hv] at this
              cases this
          clear hv
          go_wp2_with fail
          go_ret
          exact ⟨by rw [H.out]; rfl, Hb3.out⟩
        · have H : Hid (∀ a ∈ X.take (k + 1), reB a = true) := by
            intro a h
            rw [Hts.out, List.mem_append] at h
            rcases h with h | h
            · exact hall.out a h
            · rw [List.mem_singleton.1 h]; exact hv
          clear hv
          go_wp2_with fail
          go_round
          case rel => exact ⟨k + 1, by omega, by go_num, Hb3.out, H⟩
          case measure => simp [intOf]; omega
      · have H : Hid (jB X = true) := by
          have h := hall.out
          rw [List.take_of_length_le (by have := hl.out; omega)] at h
          show _ = _
          rw [jB_iff]
          have := hl.out
          exact ⟨h, by omega⟩
        go_wp2_with fail
        go_ret
        exact ⟨by rw [H.out]; rfl, hbr.out⟩

set_option maxHeartbeats 2000000 in
set_option maxRecDepth 100000 in
theorem i_JT (A : Option Addr) (n c : Nat) (X : List Rec) (w : World) (hX : Rcs w w.heap.size A n X) (hS : RSmall X) (hn : n ≤ maxLen) (hT : Tw w) :
    Calls Tryz.prog 11 #[.slice A n c] w fun e w' => e = .returned (.string (tb (jl X))) ∧ Below w.heap.size w w' := by
  have hl := hide hX.1
  have HX := hide hX
  have HS := hide hS
  have HN := hide hn
  have HTw := hide hT
  unfold maxLen at hn
  clear hX hS hT
  go_enter Tryz.func11, Tryz.ntmps11
  go_wp2_with fail
  refine (i_ROK A n c X w HX.out HS.out HN.out).mono ?_
  rintro e w1 ⟨rfl, hb1⟩
  have Hb1 := hide hb1
  clear hb1
  cases hj : jB X
  · have H : Hid (tb (jl X) = ⟨#[]⟩) := by show tb _ = _; rw [jl_f hj]; rfl
    clear hj
    go_wp2_with fail
    go_ret
    exact ⟨by rw [H.out]; rfl, Hb1.out⟩
  · have HJ := hide hj
    have h30 : n ≤ 30 := by have := (jB_iff.1 hj).2; have := hl.out; omega
    have B0 := hide (Bld.fresh w1)
    have Hb0 := hide (Hb1.out.alloc Hb1.out.size (.cells #[.pointer none, .slice none 0 0] 44))
    have hz0 : w1.heap.size ≤ (w1.alloc (.cells #[.pointer none, .slice none 0 0] 44)).heap.size := by rw [World.size_alloc]; omega
    have Hz0 := hide hz0
    clear hj hz0
    go_wp2_with fail
    go_loopw [11] (fun v wr => ∃ k : Nat, k ≤ n ∧ v = .int .i64 k ∧ Hid (Below w.heap.size w wr) ∧ Hid (Bld w1.heap.size w1.heap.size (jls 0 (X.take k)) wr) ∧ Hid (w1.heap.size ≤ wr.heap.size)) (fun v _ => n - (intOf v).toNat)
    case atStart => exact ⟨0, Nat.zero_le _, rfl, Hb0.out, B0.out, Hz0.out⟩
    case round =>
      obtain ⟨k, hk, rfl, hbr, hbl, hsz⟩ := hrel
      rename_i wr
      by_cases hlt : k < n
      · obtain ⟨a, ha⟩ : ∃ a, X[k]? = some a := ⟨X[k]'(by have := hl.out; omega), List.getElem?_eq_getElem _⟩
        have hsm := HS.out a (List.mem_of_getElem? ha)
        have hts : X.take (k + 1) = X.take k ++ [a] := by rw [List.take_add_one, ha]; rfl
        have hkl : (X.take k).length = k := by rw [List.length_take]; have := hl.out; omega
        have hT2 : (jls 0 (X.take k)).length ≤ 1300 := by
          have := @jls_len (X.take k) 0
          omega
        have HT2 := hide hT2
        have Hsn : Hid (jls 0 (X.take (k + 1)) = (jls 0 (X.take k) ++ (rtxt ((k : Int) + 1) a).data.toList) ++ [10]) := by
          show _ = _
          rw [hts, jls_app]
          show _ ++ (textL (((0 + (X.take k).length : Nat) : Int) + 1) a ++ 10 :: []) = _
          rw [hkl, Nat.zero_add]
          simp [rtxt, tb_data]
        have Ha := hide ha
        have HSM := hide hsm
        clear ha hts hsm hkl hT2
        obtain ⟨g, off, rfl, hg, c0, c1, c2, c3, c4⟩ := (HX.out.below hbr.out).at' Ha.out
        obtain ⟨r1, r2, r3, r4, r5⟩ := a
        have hw : IntKind.i64.wrap ((k : Int) + 1) = (k : Int) + 1 := IntWalk.i64_in _ (by omega)
        have Hb2 := hide (hbr.out.alloc hbr.out.size (rC r1 r2 r3 r4 r5))
        have Bl2 := hide (hbl.out.kept ((Below.refl wr.heap.size wr).alloc (Nat.le_refl _) (rC r1 r2 r3 r4 r5)))
        have Hz2 : Hid (w1.heap.size ≤ (wr.alloc (rC r1 r2 r3 r4 r5)).heap.size) := by
          show _ ≤ _
          rw [World.size_alloc]
          exact Nat.le_succ_of_le hsz.out
        have HQ := Blk.new wr 28 #[.int .i64 r1, .int .i64 r2, .int .i64 r3, .string r4, .string r5]
        obtain ⟨⟨l0, l1, l2, l3, l4⟩, _⟩ := HQ.cells5
        clear HQ
        go_wp2_with fail
        refine (i_RT ((k : Int) + 1) r1 r2 r3 r4 r5 _ HSM.out.1 HSM.out.2 (HTw.out.on Hb2.out)).mono ?_
        rintro e w3 ⟨rfl, hb3⟩
        have Hb3 := hide (Hb2.out.trans (hb3.mono Hb2.out.size))
        have Bl3 := hide (Bl2.out.kept hb3)
        have Hz3 : Hid (w1.heap.size ≤ w3.heap.size) := Nat.le_trans Hz2.out hb3.size
        have hR : (rtxt ((k : Int) + 1) (r1, r2, r3, r4, r5)).size ≤ 40 := by unfold rtxt; rw [tb_size]; exact text_len' _ _
        obtain ⟨R, hRR⟩ : ∃ R, rtxt ((k : Int) + 1) (r1, r2, r3, r4, r5) = R := ⟨_, rfl⟩
        rw [hRR] at hR ⊢
        have HRR := hide hRR
        have HR := hide hR
        clear hb3 hRR hR c0 c1 c2 c3 c4 l0 l1 l2 l3 l4
        go_wp2_with fail
        refine (bws_call R w3 Bl3.out (by have := HT2.out; have := HR.out; omega) Hz3.out).mono ?_
        rintro e w4 ⟨rfl, bl4, hb4⟩
        have Bl4 := hide bl4
        have Hb4 := hide (Hb3.out.trans (hb4.mono Hb1.out.size))
        have Hz4 : Hid (w1.heap.size ≤ w4.heap.size) := Nat.le_trans Hz3.out hb4.size
        clear bl4 hb4
        go_wp2_with fail
        refine (bws_call ⟨#[10]⟩ w4 Bl4.out (by have h1 := HT2.out; have h2 := HR.out; have h3 : (⟨#[10]⟩ : ByteArray).size = 1 := rfl; have h4 : R.data.toList.length = R.size := (by simp); rw [List.length_append]; omega) Hz4.out).mono ?_
        rintro e w5 ⟨rfl, bl5, hb5⟩
        have Bl5 : Hid (Bld w1.heap.size w1.heap.size (jls 0 (X.take (k + 1))) w5) := by
          show Bld _ _ _ _
          rw [Hsn.out, HRR.out]
          exact bl5
        have Hb5 := hide (Hb4.out.trans (hb5.mono Hb1.out.size))
        have Hz5 : Hid (w1.heap.size ≤ w5.heap.size) := Nat.le_trans Hz4.out hb5.size
        clear bl5 hb5
        go_wp2_with fail
        go_round
        case rel => exact ⟨k + 1, by omega, by go_num, Hb5.out, Bl5.out, Hz5.out⟩
        case measure => simp [intOf]; omega
      · have H2 : Hid ((⟨(jls 0 (X.take k)).toArray⟩ : ByteArray) = tb (jl X)) := by
          show _ = _
          rw [List.take_of_length_le (by have := hl.out; omega), jl_t HJ.out]
          rfl
        go_wp2_with fail
        refine (bst_call wr hbl.out hsz.out).mono ?_
        rintro e w3 ⟨rfl, hb3⟩
        rw [H2.out]
        have Hb3 := hide (hbr.out.trans (hb3.mono Hb1.out.size))
        clear hb3
        go_wp2_with fail
        go_ret
        exact ⟨rfl, Hb3.out⟩
end Go.Proofs.YtmofnmklodmkmaaGreatDoor
