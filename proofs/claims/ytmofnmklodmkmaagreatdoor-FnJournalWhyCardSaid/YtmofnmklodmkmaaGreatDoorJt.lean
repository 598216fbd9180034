/- JournalText: the spec's. -/
import Derived.Test.YtmofnmklodmkmaaGreatDoorRw
import Derived.Test.YtmofnmklodmkmaaGreatDoorRg
import Derived.Test.YtmofnmklodmkmaaGreatDoorJnl
set_option linter.unusedVariables false
set_option linter.unusedSimpArgs false
namespace Go.Proofs.YtmofnmklodmkmaaGreatDoor
open Go.RowKit

set_option maxHeartbeats 2000000 in
set_option maxRecDepth 100000 in
theorem s_jok (A : Option Addr) (n c : Nat) (X : List Rec) (w : World) (hX : Rcs w w.heap.size A n X) (hS : RSmall X) (hn : n ≤ maxLen) :
    Calls Tryz.prog 27 #[.slice A n c] w fun e w' => e = .returned (.bool (jB X)) ∧ Below w.heap.size w w' := by
  unfold maxLen at hn
  have hl := hide hX.1
  have HX := hide hX
  have HS := hide hS
  clear hX hS
  go_enter Tryz.func27, Tryz.ntmps27
  go_wp2_with fail
  go_loopw [3] (fun v wr => ∃ k : Nat, k ≤ n ∧ v = .int .i64 k ∧ Hid (Below w.heap.size w wr) ∧ Hid (∀ a ∈ X.take k, reB a = true)) (fun v _ => n - (intOf v).toNat)
  case atStart => exact ⟨0, Nat.zero_le _, rfl, Below.refl _ _, fun a h => by simp at h⟩
  case round =>
    obtain ⟨k, hk, rfl, hbr, hall⟩ := hrel
    rename_i wr
    by_cases hlt : k < n
    · obtain ⟨a, ha⟩ : ∃ a, X[k]? = some a := ⟨X[k]'(by have := hl.out; omega), List.getElem?_eq_getElem _⟩
      have hsm := HS.out a (List.mem_of_getElem? ha)
      obtain ⟨g, off, rfl, hg, c0, c1, c2, c3, c4⟩ := (HX.out.below hbr.out).at' ha
      have hts : X.take (k + 1) = X.take k ++ [a] := by rw [List.take_add_one, ha]; rfl
      have Ha := hide ha
      have Hts := hide hts
      obtain ⟨r1, r2, r3, r4, r5⟩ := a
      have HSM := hide hsm
      clear ha hts hsm
      go_wp2_with fail
      refine (s_RV r1 r2 r3 r4 r5 _ HSM.out.1 HSM.out.2).mono ?_
      rintro e w2 ⟨rfl, hb2⟩
      have Hb2 := hide (hbr.out.trans (hb2.mono hbr.out.size))
      clear hb2
      cases hv : reB (r1, r2, r3, r4, r5)
      · have H : Hid (jB X = false) := by
          show _ = _
          cases hj : jB X
          · rfl
          · have := (jB_iff.1 hj).1 _ (List.mem_of_getElem? Ha.out)
            rw [hv] at this
            cases this
        clear hv
        go_wp2_with fail
        go_ret
        exact ⟨by rw [H.out]; rfl, Hb2.out⟩
      · have H : Hid (∀ a ∈ X.take (k + 1), reB a = true) := by
          intro a h
          rw [Hts.out, List.mem_append] at h
          rcases h with h | h
          · exact hall.out a h
          · rw [List.mem_singleton.1 h]; exact hv
        clear hv
        go_wp2_with fail
        go_round
        case rel => exact ⟨k + 1, by omega, by go_num, Hb2.out, H⟩
        case measure => simp [intOf]; omega
    · have H : Hid (jB X = decide ((n : Int) ≤ 30)) := by
        have h := hall.out
        rw [List.take_of_length_le (by have := hl.out; omega)] at h
        show _ = _
        rw [Bool.eq_iff_iff, jB_iff, decide_eq_true_iff]
        have := hl.out
        exact ⟨fun h => by have := h.2; omega, fun h2 => ⟨h, by omega⟩⟩
      go_wp2_with fail
      go_ret
      exact ⟨by rw [H.out]; rfl, hbr.out⟩

theorem text_len' (p : Int) (r : Rec) : (textL p r).length ≤ 40 := by
  by_cases h : textL p r = []
  · rw [h]; simp
  obtain ⟨h1, h2, h3⟩ := textL_ne h
  rw [h3]
  have d1 := (@decL_len p.toNat).2
  have d2 := (@decL_len (chk (join4 p.toNat r))).2
  have hj : (lineL p.toNat r).length = (decL p.toNat).length + (wds r).1.length + (wds r).2.1.length + (wds r).2.2.length + (decL (chk (join4 p.toNat r))).length + 4 := by
    unfold lineL
    rw [List.length_append, List.length_cons]
    generalize (decL (chk (join4 p.toNat r))).length = z
    unfold join4
    simp only [List.length_append, List.length_cons]
    omega
  rw [hj]
  have hw : (wds r).1.length ≤ 8 ∧ (wds r).2.1.length ≤ 5 ∧ (wds r).2.2.length ≤ 5 := by
    rcases re_ways h2 with ⟨i, s, rfl, hi, hs⟩ | ⟨i, d, rfl, hi, hd⟩ | ⟨s, t, rfl | rfl, hs, ht, _⟩
    · have e1 := (@decL_len i.toNat).2
      have e2 := (nvB_size hs).2
      exact ⟨by show 4 ≤ 8; omega, by show (decL i.toNat).length ≤ 5; omega, by show s.data.toList.length ≤ 5; simp; omega⟩
    · have e1 := (@decL_len i.toNat).2
      have e2 := (@decL_len d.toNat).2
      exact ⟨by show 5 ≤ 8; omega, by show (decL i.toNat).length ≤ 5; omega, by show (decL d.toNat).length ≤ 5; omega⟩
    · have e1 := (nvB_size hs).2
      have e2 := (nvB_size ht).2
      exact ⟨by show 6 ≤ 8; omega, by show s.data.toList.length ≤ 5; simp; omega, by show t.data.toList.length ≤ 5; simp; omega⟩
    · have e1 := (nvB_size hs).2
      have e2 := (nvB_size ht).2
      exact ⟨by show 8 ≤ 8; omega, by show s.data.toList.length ≤ 5; simp; omega, by show t.data.toList.length ≤ 5; simp; omega⟩
  omega
theorem jls_len {L : List Rec} : ∀ {k : Nat}, (jls k L).length ≤ L.length * 41 := by
  induction L with
  | nil => intro k; exact Nat.le_refl _
  | cons r L ih =>
    intro k
    have h1 := text_len' ((k : Int) + 1) r
    have h2 := @ih (k + 1)
    show (textL ((k : Int) + 1) r ++ 10 :: jls (k + 1) L).length ≤ _
    simp
    omega
theorem jls_snoc (L : List Rec) (r : Rec) : tb (jls 0 (L ++ [r])) = tb (jls 0 L) ++ rtxt ((L.length : Int) + 1) r ++ ⟨#[10]⟩ := by
  apply ba_ext
  rw [tb_data, jls_app]
  show jls 0 L ++ (textL (((0 + L.length : Nat) : Int) + 1) r ++ 10 :: []) = _
  rw [Nat.zero_add]
  simp [rtxt, tb_data]

set_option maxHeartbeats 2000000 in
set_option maxRecDepth 100000 in
theorem s_JT (A : Option Addr) (n c : Nat) (X : List Rec) (w : World) (hX : Rcs w w.heap.size A n X) (hS : RSmall X) (hn : n ≤ maxLen) :
    Calls Tryz.prog 12 #[.slice A n c] w fun e w' => e = .returned (.string (tb (jl X))) ∧ Below w.heap.size w w' := by
  have hl := hide hX.1
  have HX := hide hX
  have HS := hide hS
  have HN := hide hn
  unfold maxLen at hn
  clear hX hS
  cases hj : jB X
  · have H : Hid (tb (jl X) = ⟨#[]⟩) := by show tb _ = _; rw [jl_f hj]; rfl
    have HJ := hide hj
    clear hj
    go_enter Tryz.func12, Tryz.ntmps12
    go_wp2_with fail
    go_loopw [3, 4] (fun u v wr => u = .string ⟨#[]⟩ ∧ v = .int .i64 0 ∧ wr = w) (fun _ _ _ => 0)
    case atStart => exact ⟨rfl, rfl, rfl⟩
    case round =>
      obtain ⟨rfl, rfl, rfl⟩ := hrel
      by_cases h0 : 0 < n
      · have h0' : (0 : Int) < (n : Int) := by omega
        go_wp2_with fail
        refine (s_jok A n c X _ HX.out HS.out HN.out).mono ?_
        rintro e w2 ⟨rfl, hb2⟩
        rw [HJ.out]
        have Hb2 := hide hb2
        clear hb2
        go_wp2_with fail
        go_ret
        exact ⟨by rw [H.out]; rfl, Hb2.out⟩
      · obtain rfl : n = 0 := by omega
        go_wp2_with fail
        go_ret
        exact ⟨by rw [H.out]; rfl, Below.refl _ _⟩
  · have hX30 : n ≤ 30 := by have := (jB_iff.1 hj).2; have := hl.out; omega
    have H : Hid (tb (jl X) = tb (jls 0 X)) := by show tb _ = _; rw [jl_t hj]
    have HJ := hide hj
    clear hj
    go_enter Tryz.func12, Tryz.ntmps12
    go_wp2_with fail
    go_loopw [3, 4] (fun u v wr => ∃ (k : Nat) (T : ByteArray), k ≤ n ∧ u = .string T ∧ v = .int .i64 k ∧ Hid (Below w.heap.size w wr) ∧ Hid (tb (jls 0 (X.take k)) = T)) (fun _ v _ => n - (intOf v).toNat)
    case atStart => exact ⟨0, ⟨#[]⟩, Nat.zero_le _, rfl, rfl, Below.refl _ _, rfl⟩
    case round =>
      obtain ⟨k, T, hk, rfl, rfl, hbr, hT⟩ := hrel
      rename_i wr
      by_cases hlt : k < n
      · obtain ⟨a, ha⟩ : ∃ a, X[k]? = some a := ⟨X[k]'(by have := hl.out; omega), List.getElem?_eq_getElem _⟩
        have hsm := HS.out a (List.mem_of_getElem? ha)
        have hts : X.take (k + 1) = X.take k ++ [a] := by rw [List.take_add_one, ha]; rfl
        have hkl : (X.take k).length = k := by rw [List.length_take]; have := hl.out; omega
        have hT2 : T.size ≤ 1300 := by
          rw [← hT.out, tb_size]
          have := @jls_len (X.take k) 0
          omega
        have Hsn : Hid (tb (jls 0 (X.take (k + 1))) = T ++ rtxt ((k : Int) + 1) a ++ ⟨#[10]⟩) := by
          show _ = _
          rw [hts, jls_snoc, hkl, hT.out]
        have Ha := hide ha
        have HSM := hide hsm
        clear ha hts hsm hkl
        go_wp2_with fail
        refine (s_jok A n c X _ (HX.out.on hbr.out) HS.out HN.out).mono ?_
        rintro e w2 ⟨rfl, hb2⟩
        rw [HJ.out]
        have Hb2 := hide (hbr.out.trans (hb2.mono hbr.out.size))
        clear hb2
        obtain ⟨g, off, rfl, hg, c0, c1, c2, c3, c4⟩ := (HX.out.below Hb2.out).at' Ha.out
        obtain ⟨r1, r2, r3, r4, r5⟩ := a
        have hw : IntKind.i64.wrap ((k : Int) + 1) = (k : Int) + 1 := IntWalk.i64_in _ (by omega)
        go_wp2_with fail
        refine (s_RT ((k : Int) + 1) r1 r2 r3 r4 r5 _ HSM.out.1 HSM.out.2).mono ?_
        rintro e w3 ⟨rfl, hb3⟩
        have Hb3 := hide (Hb2.out.trans (hb3.mono Hb2.out.size))
        have hR : (rtxt ((k : Int) + 1) (r1, r2, r3, r4, r5)).size ≤ 40 := by unfold rtxt; rw [tb_size]; exact text_len' _ _
        obtain ⟨R, hRR⟩ : ∃ R, rtxt ((k : Int) + 1) (r1, r2, r3, r4, r5) = R := ⟨_, rfl⟩
        rw [hRR] at hR ⊢
        have HRR := hide hRR
        clear hb3 hRR c0 c1 c2 c3 c4
        go_wp2_with fail
        go_round
        case rel => exact ⟨k + 1, T ++ R ++ ⟨#[10]⟩, by omega, rfl, by go_num, Hb3.out, by show _ = _; rw [Hsn.out, HRR.out]⟩
        case measure => simp [intOf]; omega
      · have H2 : Hid (tb (jls 0 X) = T) := by
          have h := hT.out
          rw [List.take_of_length_le (by have := hl.out; omega)] at h
          exact h
        go_wp2_with fail
        go_ret
        exact ⟨by rw [H.out, H2.out]; rfl, hbr.out⟩
end Go.Proofs.YtmofnmklodmkmaaGreatDoor
