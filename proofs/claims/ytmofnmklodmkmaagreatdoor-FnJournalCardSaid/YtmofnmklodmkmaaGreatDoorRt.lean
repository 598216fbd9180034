/- RecordValid, the check, RecordText of the spec. -/
import Derived.Test.YtmofnmklodmkmaaGreatDoorRd
import Derived.Test.YtmofnmklodmkmaaGreatDoorLater
set_option linter.unusedVariables false
set_option linter.unusedSimpArgs false
namespace Go.Proofs.YtmofnmklodmkmaaGreatDoor
open Go.RowKit

set_option maxHeartbeats 1000000 in
theorem s_sum (s : ByteArray) (w : World) (hs : s.size ≤ maxLen) :
    Calls Tryz.prog 48 #[.string s] w fun e w' => e = .returned (.int .i64 (chk s.data.toList : Nat)) ∧ w = w' := by
  unfold maxLen at hs
  go_enter Tryz.func48, Tryz.ntmps48
  go_wp2_with fail
  go_loop [3, 4] (fun n i => ∃ k x : Nat, k ≤ s.size ∧ i = .int .i64 k ∧ n = .int .i64 x ∧ x < 997 ∧ Hid (chk (s.data.toList.take k) = x)) (fun _ i => s.size - (intOf i).toNat)
  case atStart => exact ⟨0, 17, Nat.zero_le _, rfl, rfl, by omega, rfl⟩
  case round =>
    obtain ⟨k, x, hk, rfl, rfl, hx, hc⟩ := hrel
    by_cases hlt : k < s.size
    · have hts : Hid (s.data.toList.take (k + 1) = s.data.toList.take k ++ [s[k]]) := by
        show _ = _
        rw [List.take_succ_eq_append_getElem (by simpa using hlt)]; rfl
      have H : Hid (chk (s.data.toList.take (k + 1)) = (263 * x + s[k].toNat) % 997) := by show _ = _; rw [hts.out, chk_snoc, hc.out]
      have hlt2 : (263 * x + s[k].toNat) % 997 < 997 := Nat.mod_lt _ (by omega)
      have hc8 : s[k].toNat < 256 := s[k].toNat_lt
      go_wp2_with fail
      go_round
      case rel => exact ⟨k + 1, (263 * x + s[k].toNat) % 997, by omega, by go_num, by go_num, hlt2, H⟩
      case measure => simp [intOf]; omega
    · have H : Hid (chk s.data.toList = x) := by have h := hc.out; rw [List.take_of_length_le (by simp; omega)] at h; exact h
      go_wp2_with fail
      go_ret
      exact ⟨by rw [H.out]; rfl, rfl⟩

/-- A record's value. -/
abbrev rV (k i d : Int) (s t : ByteArray) : Value := .agg #[.int .i64 k, .int .i64 i, .int .i64 d, .string s, .string t]
abbrev rC (k i d : Int) (s t : ByteArray) : Obj := .cells #[.int .i64 k, .int .i64 i, .int .i64 d, .string s, .string t] 28
theorem emB_eq (t : ByteArray) : t.toList.isEmpty = emB t := by unfold emB; rw [Lib.toList_data]

theorem beq_str (s t : ByteArray) : (s.toList == t.toList) = decide (s = t) := by
  rw [Bool.eq_iff_iff, beq_iff_eq, decide_eq_true_iff, Lib.toList_data, Lib.toList_data]
  constructor
  · intro h; rw [← tb_list s, h, tb_list]
  · rintro rfl; rfl

set_option maxHeartbeats 4000000 in
set_option maxRecDepth 100000 in
theorem s_RV (k i d : Int) (s t : ByteArray) (w : World) (hs : s.size ≤ maxLen) (ht : t.size ≤ maxLen) :
    Calls Tryz.prog 43 #[.agg #[.int .i64 k, .int .i64 i, .int .i64 d, .string s, .string t]] w fun e w' => e = .returned (.bool (reB (k, i, d, s, t))) ∧ Below w.heap.size w w' := by
  have hb := hide ((Below.refl w.heap.size w).alloc (Nat.le_refl _) (.cells #[.int .i64 k, .int .i64 i, .int .i64 d, .string s, .string t] 28))
  have HS := hide hs
  have HT := hide ht
  clear hs ht
  by_cases h1 : k = 1
  · subst h1
    have H0 : Hid (reB (1, i, d, s, t) = rePost (1, i, d, s, t)) := reB_1 rfl
    go_enter Tryz.func43, Tryz.ntmps43
    go_wp2_with fail
    refine (s_in i 1 999 _).mono ?_
    rintro e w' ⟨rfl, rfl⟩
    cases h2 : inB i 1 999
    · have H : Hid (rePost (1, i, d, s, t) = false) := by show _ = _; unfold rePost; rw [show inR i = false from h2]; rfl
      clear h2
      go_wp2_with fail
      go_ret
      exact ⟨by rw [H0.out, H.out]; rfl, hb.out⟩
    have H2 : Hid (inR i = true) := h2
    clear h2
    by_cases h3 : d = 0
    · subst h3
      go_wp2_with fail
      refine (s_NameValid s _ HS.out).mono ?_
      rintro e w' ⟨rfl, rfl⟩
      cases h4 : nvB s
      · have H : Hid (rePost (1, i, 0, s, t) = false) := by show _ = _; unfold rePost; rw [h4]; simp
        clear h4
        go_wp2_with fail
        go_ret
        exact ⟨by rw [H0.out, H.out]; rfl, hb.out⟩
      · have H : Hid (rePost (1, i, 0, s, t) = emB t) := by show _ = _; unfold rePost; rw [h4, H2.out]; simp
        clear h4
        go_wp2_with fail
        go_ret
        exact ⟨by rw [H0.out, H.out, ← emB_eq]; rfl, hb.out⟩
    · have H : Hid (rePost (1, i, d, s, t) = false) := by show _ = _; unfold rePost; simp [h3]
      have h3' : decide (d = 0) = false := by simpa using h3
      go_wp2_with fail
      go_ret
      exact ⟨by rw [H0.out, H.out]; rfl, hb.out⟩
  by_cases h2 : k = 2
  · subst h2
    have H0 : Hid (reB (2, i, d, s, t) = reMoved (2, i, d, s, t)) := reB_2 rfl
    clear h1
    go_enter Tryz.func43, Tryz.ntmps43
    go_wp2_with fail
    refine (s_in i 1 999 _).mono ?_
    rintro e w' ⟨rfl, rfl⟩
    cases h2 : inB i 1 999
    · have H : Hid (reMoved (2, i, d, s, t) = false) := by show _ = _; unfold reMoved; rw [show inR i = false from h2]; rfl
      clear h2
      go_wp2_with fail
      go_ret
      exact ⟨by rw [H0.out, H.out]; rfl, hb.out⟩
    have H2 : Hid (inR i = true) := h2
    clear h2
    go_wp2_with fail
    refine (s_in d 1 10 _).mono ?_
    rintro e w' ⟨rfl, rfl⟩
    cases h3 : inB d 1 10
    · have H : Hid (reMoved (2, i, d, s, t) = false) := by show _ = _; unfold reMoved; rw [show inT d = false from h3]; simp
      clear h3
      go_wp2_with fail
      go_ret
      exact ⟨by rw [H0.out, H.out]; rfl, hb.out⟩
    have H3 : Hid (inT d = true) := h3
    clear h3
    cases h4 : s.toList.isEmpty
    · have H : Hid (reMoved (2, i, d, s, t) = false) := by show _ = _; unfold reMoved; rw [← emB_eq s, h4]; simp
      go_wp2_with fail
      go_ret
      exact ⟨by rw [H0.out, H.out]; rfl, hb.out⟩
    · have H : Hid (reMoved (2, i, d, s, t) = emB t) := by show _ = _; unfold reMoved; rw [← emB_eq s, h4, H2.out, H3.out]; rfl
      go_wp2_with fail
      go_ret
      exact ⟨by rw [H0.out, H.out, ← emB_eq]; rfl, hb.out⟩
  by_cases h3 : k = 3
  · subst h3
    clear h1 h2
    have H0 : Hid (reB (3, i, d, s, t) = reTwo (3, i, d, s, t)) := reB_3 (by exact .inl rfl)
    by_cases h2 : i = 0
    · subst h2
      by_cases h3 : d = 0
      · subst h3
        go_enter Tryz.func43, Tryz.ntmps43
        go_wp2_with fail
        refine (s_NameValid s _ HS.out).mono ?_
        rintro e w' ⟨rfl, rfl⟩
        cases h4 : nvB s
        · have H : Hid (reTwo (3, 0, 0, s, t) = false) := by show _ = _; unfold reTwo; rw [h4]; simp
          clear h4
          go_wp2_with fail
          go_ret
          exact ⟨by rw [H0.out, H.out]; rfl, hb.out⟩
        have H4 := hide h4
        clear h4
        go_wp2_with fail
        refine (s_NameValid t _ HT.out).mono ?_
        rintro e w' ⟨rfl, rfl⟩
        cases h5 : nvB t
        · have H : Hid (reTwo (3, 0, 0, s, t) = false) := by show _ = _; unfold reTwo; rw [h5]; simp
          clear h5
          go_wp2_with fail
          go_ret
          exact ⟨by rw [H0.out, H.out]; rfl, hb.out⟩
        have H : Hid (reTwo (3, 0, 0, s, t) = !decide (s = t)) := by show _ = _; unfold reTwo; rw [h5, H4.out]; simp
        clear h5
        go_wp2_with fail
        go_ret
        exact ⟨by rw [H0.out, H.out]; first | rfl | simp [beq_str] | (rw [← beq_str]; rfl), hb.out⟩
      · have H : Hid (reTwo (3, 0, d, s, t) = false) := by show _ = _; unfold reTwo; simp [h3]
        have h3' : decide (d = 0) = false := by simpa using h3
        go_enter Tryz.func43, Tryz.ntmps43
        go_wp2_with fail
        go_ret
        exact ⟨by rw [H0.out, H.out]; rfl, hb.out⟩
    · have H : Hid (reTwo (3, i, d, s, t) = false) := by show _ = _; unfold reTwo; simp [h2]
      have h2' : decide (i = 0) = false := by simpa using h2
      go_enter Tryz.func43, Tryz.ntmps43
      go_wp2_with fail
      go_ret
      exact ⟨by rw [H0.out, H.out]; rfl, hb.out⟩
  by_cases h4 : k = 4
  · subst h4
    clear h1 h2 h3
    have H0 : Hid (reB (4, i, d, s, t) = reTwo (4, i, d, s, t)) := reB_3 (by exact .inr rfl)
    by_cases h2 : i = 0
    · subst h2
      by_cases h3 : d = 0
      · subst h3
        go_enter Tryz.func43, Tryz.ntmps43
        go_wp2_with fail
        refine (s_NameValid s _ HS.out).mono ?_
        rintro e w' ⟨rfl, rfl⟩
        cases h4 : nvB s
        · have H : Hid (reTwo (4, 0, 0, s, t) = false) := by show _ = _; unfold reTwo; rw [h4]; simp
          clear h4
          go_wp2_with fail
          go_ret
          exact ⟨by rw [H0.out, H.out]; rfl, hb.out⟩
        have H4 := hide h4
        clear h4
        go_wp2_with fail
        refine (s_NameValid t _ HT.out).mono ?_
        rintro e w' ⟨rfl, rfl⟩
        cases h5 : nvB t
        · have H : Hid (reTwo (4, 0, 0, s, t) = false) := by show _ = _; unfold reTwo; rw [h5]; simp
          clear h5
          go_wp2_with fail
          go_ret
          exact ⟨by rw [H0.out, H.out]; rfl, hb.out⟩
        have H : Hid (reTwo (4, 0, 0, s, t) = !decide (s = t)) := by show _ = _; unfold reTwo; rw [h5, H4.out]; simp
        clear h5
        go_wp2_with fail
        go_ret
        exact ⟨by rw [H0.out, H.out]; first | rfl | simp [beq_str] | (rw [← beq_str]; rfl), hb.out⟩
      · have H : Hid (reTwo (4, 0, d, s, t) = false) := by show _ = _; unfold reTwo; simp [h3]
        have h3' : decide (d = 0) = false := by simpa using h3
        go_enter Tryz.func43, Tryz.ntmps43
        go_wp2_with fail
        go_ret
        exact ⟨by rw [H0.out, H.out]; rfl, hb.out⟩
    · have H : Hid (reTwo (4, i, d, s, t) = false) := by show _ = _; unfold reTwo; simp [h2]
      have h2' : decide (i = 0) = false := by simpa using h2
      go_enter Tryz.func43, Tryz.ntmps43
      go_wp2_with fail
      go_ret
      exact ⟨by rw [H0.out, H.out]; rfl, hb.out⟩
  have H0 : Hid (reB (k, i, d, s, t) = false) := by show _ = _; unfold reB; simp [h1, h2, h3, h4]
  have d1 : decide (k = 1) = false := by simpa using h1
  have d2 : decide (k = 2) = false := by simpa using h2
  have d3 : decide (k = 3) = false := by simpa using h3
  have d4 : decide (k = 4) = false := by simpa using h4
  go_enter Tryz.func43, Tryz.ntmps43
  go_wp2_with fail
  go_ret
  exact ⟨by rw [H0.out]; rfl, hb.out⟩

theorem ba_ext {a b : ByteArray} (h : a.data.toList = b.data.toList) : a = b := by rw [← tb_list a, h, tb_list]
def bodL (r : Rec) : Txt := (wds r).1 ++ 32 :: ((wds r).2.1 ++ 32 :: (wds r).2.2)
theorem join4_bod (p : Nat) (r : Rec) : join4 p r = decL p ++ 32 :: bodL r := rfl
theorem cells5 {w : World} {k i d : Int} {s t : ByteArray} {T : TypeId} : ∀ z : Later (w.heap.size + 1) (w.alloc (.cells #[.int .i64 k, .int .i64 i, .int .i64 d, .string s, .string t] T)), z.it.cell? ⟨w.heap.size, 1, none⟩ = some (.int .i64 i) ∧ z.it.cell? ⟨w.heap.size, 2, none⟩ = some (.int .i64 d) ∧ z.it.cell? ⟨w.heap.size, 3, none⟩ = some (.string s) := fun z =>
  ⟨(z.cell (Nat.lt_succ_self _)).trans ((Blk.new w T _).cell 1), (z.cell (Nat.lt_succ_self _)).trans ((Blk.new w T _).cell 2), (z.cell (Nat.lt_succ_self _)).trans ((Blk.new w T _).cell 3)⟩
theorem Later.dec {B : Nat} {W : World} (z : Later B W) (n : Nat) (h : n < 1000) (hB : B ≤ W.heap.size) :
    Calls Tryz.prog 46 #[.int .i64 (n : Int)] z.it fun e w'' => e = .returned (.string (decB n)) ∧ ∃ z' : Later B W, w'' = z'.it :=
  Later.call ((s_dec n z.it h).mono fun e w' ⟨h1, h2⟩ => ⟨h1, h2.mono (by have := z.below.size; omega)⟩)

set_option maxHeartbeats 2000000 in
set_option maxRecDepth 100000 in
theorem s_body (k i d : Int) (s t : ByteArray) (w : World) (hv : reB (k, i, d, s, t) = true) :
    Calls Tryz.prog 47 #[.agg #[.int .i64 k, .int .i64 i, .int .i64 d, .string s, .string t]] w fun e w' => e = .returned (.string (tb (bodL (k, i, d, s, t)))) ∧ Below w.heap.size w w' := by
  rcases re_ways hv with ⟨i, s, e, hi, hs⟩ | ⟨i, d, e, hi, hd⟩ | ⟨s, t, e | e, hs, ht, _⟩
  · injection e with e1 e2
    injection e2 with e2 e3
    injection e3 with e3 e4
    injection e4 with e4 e5
    subst e1 e2 e3 e4 e5
    obtain ⟨m, rfl⟩ : ∃ m : Nat, i = (m : Int) := ⟨i.toNat, by have := inR_iff.1 hi; omega⟩
    have hm : m < 1000 := by have := inR_iff.1 hi; omega
    have hs4 := (nvB_size hs).2
    have hd3 := decB_size m
    have H : Hid (tb (bodL (1, (m : Int), 0, s, ⟨#[]⟩)) = ⟨#[112, 111, 115, 116, 32]⟩ ++ decB m ++ ⟨#[32]⟩ ++ s) := by
      apply ba_ext
      rw [tb_data]
      simp [bodL, wds, wPost, decB, tb_data]
    have hb := hide ((Below.refl w.heap.size w).alloc (Nat.le_refl _) (.cells #[.int .i64 1, .int .i64 (m : Int), .int .i64 0, .string s, .string ⟨#[]⟩] 28))
    have hz := @cells5 w 1 (m : Int) 0 s ⟨#[]⟩ 28
    have hz1 := fun z => (hz z).1
    have hz3 := fun z => (hz z).2.2
    clear hz hv hi hs
    go_enter Tryz.func47, Tryz.ntmps47
    go_wp2_with fail
    refine wp_region_later (B := w.heap.size + 1) (by kernel_rfl) (by kernel_rfl) ?_
    repeat (go_big_quiet_step ((first | (go_at_call 46; exact Later.dec _ _ hm (by simp)))))
    refine wpQuiet_nil ?_
    intro _ hw'
    obtain ⟨⟨w5, hb5⟩, hw''⟩ := hw'
    subst hw''
    have Hb5 := hide hb5
    clear hb5
    go_wp2_with fail
    go_ret
    exact ⟨by rw [H.out]; rfl, hb.out.trans (Hb5.out.mono (Nat.le_succ _))⟩
  · injection e with e1 e2
    injection e2 with e2 e3
    injection e3 with e3 e4
    injection e4 with e4 e5
    subst e1 e2 e3 e4 e5
    obtain ⟨m, rfl⟩ : ∃ m : Nat, i = (m : Int) := ⟨i.toNat, by have := inR_iff.1 hi; omega⟩
    obtain ⟨n, rfl⟩ : ∃ n : Nat, d = (n : Int) := ⟨d.toNat, by have := inT_iff.1 hd; omega⟩
    have hm : m < 1000 := by have := inR_iff.1 hi; omega
    have hn : n < 1000 := by have := inT_iff.1 hd; omega
    have hd3 := decB_size m
    have hn3 := decB_size n
    have H : Hid (tb (bodL (2, (m : Int), (n : Int), ⟨#[]⟩, ⟨#[]⟩)) = ⟨#[109, 111, 118, 101, 100, 32]⟩ ++ decB m ++ ⟨#[32]⟩ ++ decB n) := by
      apply ba_ext
      rw [tb_data]
      simp [bodL, wds, wMoved, decB, tb_data]
    have hb := hide ((Below.refl w.heap.size w).alloc (Nat.le_refl _) (.cells #[.int .i64 2, .int .i64 (m : Int), .int .i64 (n : Int), .string ⟨#[]⟩, .string ⟨#[]⟩] 28))
    have hz := @cells5 w 2 (m : Int) (n : Int) ⟨#[]⟩ ⟨#[]⟩ 28
    have hz1 := fun z => (hz z).1
    have hz2 := fun z => (hz z).2.1
    clear hz hv hi hd
    go_enter Tryz.func47, Tryz.ntmps47
    go_wp2_with fail
    refine wp_region_later (B := w.heap.size + 1) (by kernel_rfl) (by kernel_rfl) ?_
    repeat (go_big_quiet_step ((first | (go_at_call 46; with_reducible exact Later.dec _ _ hm (by simp)) | (go_at_call 46; with_reducible exact Later.dec _ _ hn (by simp)))))
    refine wpQuiet_nil ?_
    intro _ hw'
    obtain ⟨⟨w5, hb5⟩, hw''⟩ := hw'
    subst hw''
    have Hb5 := hide hb5
    clear hb5
    go_wp2_with fail
    go_ret
    exact ⟨by rw [H.out]; rfl, hb.out.trans (Hb5.out.mono (Nat.le_succ _))⟩
  · skip
    injection e with e1 e2
    injection e2 with e2 e3
    injection e3 with e3 e4
    injection e4 with e4 e5
    subst e1 e2 e3 e4 e5
    have hs4 := (nvB_size hs).2
    have ht4 := (nvB_size ht).2
    have H : Hid (tb (bodL (3, 0, 0, s, t)) = ⟨#[102, 111, 108, 108, 111, 119, 32]⟩ ++ s ++ ⟨#[32]⟩ ++ t) := by
      apply ba_ext
      rw [tb_data]
      simp [bodL, wds, wFollow]
    have hb := hide ((Below.refl w.heap.size w).alloc (Nat.le_refl _) (.cells #[.int .i64 3, .int .i64 0, .int .i64 0, .string s, .string t] 28))
    clear hv hs ht
    go_enter Tryz.func47, Tryz.ntmps47
    go_wp2_with fail
    go_ret
    exact ⟨by rw [H.out]; rfl, hb.out⟩
  · skip
    injection e with e1 e2
    injection e2 with e2 e3
    injection e3 with e3 e4
    injection e4 with e4 e5
    subst e1 e2 e3 e4 e5
    have hs4 := (nvB_size hs).2
    have ht4 := (nvB_size ht).2
    have H : Hid (tb (bodL (4, 0, 0, s, t)) = ⟨#[117, 110, 102, 111, 108, 108, 111, 119, 32]⟩ ++ s ++ ⟨#[32]⟩ ++ t) := by
      apply ba_ext
      rw [tb_data]
      simp [bodL, wds, wUnf]
    have hb := hide ((Below.refl w.heap.size w).alloc (Nat.le_refl _) (.cells #[.int .i64 4, .int .i64 0, .int .i64 0, .string s, .string t] 28))
    clear hv hs ht
    go_enter Tryz.func47, Tryz.ntmps47
    go_wp2_with fail
    go_ret
    exact ⟨by rw [H.out]; rfl, hb.out⟩

/-- The line of a record. -/
def rtxt (p : Int) (r : Rec) : ByteArray := tb (textL p r)
theorem bod_size {r : Rec} (h : reB r = true) : (tb (bodL r)).size ≤ 20 := by
  show (bodL r).toArray.size ≤ 20
  rw [List.size_toArray]
  rcases re_ways h with ⟨i, s, rfl, hi, hs⟩ | ⟨i, d, rfl, hi, hd⟩ | ⟨s, t, rfl | rfl, hs, ht, _⟩
  · have h1 : s.data.toList.length ≤ 4 := (nvB_size hs).2
    have h2 := (@decL_len i.toNat).2
    simp [bodL, wds, wPost] at h1 h2 ⊢
    omega
  · have h2 := (@decL_len i.toNat).2
    have h3 := (@decL_len d.toNat).2
    simp [bodL, wds, wMoved]
    omega
  · have h1 : s.data.toList.length ≤ 4 := (nvB_size hs).2
    have h2 : t.data.toList.length ≤ 4 := (nvB_size ht).2
    simp [bodL, wds, wFollow] at h1 h2 ⊢
    omega
  · have h1 : s.data.toList.length ≤ 4 := (nvB_size hs).2
    have h2 : t.data.toList.length ≤ 4 := (nvB_size ht).2
    simp [bodL, wds, wUnf] at h1 h2 ⊢
    omega
theorem Later.body {B : Nat} {W : World} (z : Later B W) (k i d : Int) (s t : ByteArray) (hv : reB (k, i, d, s, t) = true) (hB : B ≤ W.heap.size) :
    Calls Tryz.prog 47 #[.agg #[.int .i64 k, .int .i64 i, .int .i64 d, .string s, .string t]] z.it fun e w'' => e = .returned (.string (tb (bodL (k, i, d, s, t)))) ∧ ∃ z' : Later B W, w'' = z'.it :=
  Later.call ((s_body k i d s t z.it hv).mono fun e w' ⟨h1, h2⟩ => ⟨h1, h2.mono (by have := z.below.size; omega)⟩)
set_option maxHeartbeats 2000000 in
set_option maxRecDepth 100000 in
theorem s_RT (p k i d : Int) (s t : ByteArray) (w : World) (hs : s.size ≤ maxLen) (ht : t.size ≤ maxLen) :
    Calls Tryz.prog 28 #[.int .i64 p, .agg #[.int .i64 k, .int .i64 i, .int .i64 d, .string s, .string t]] w fun e w' => e = .returned (.string (rtxt p (k, i, d, s, t))) ∧ Below w.heap.size w w' := by
  have hb := hide ((Below.refl w.heap.size w).alloc (Nat.le_refl _) (.cells #[.int .i64 k, .int .i64 i, .int .i64 d, .string s, .string t] 28))
  have HS := hide hs
  have HT := hide ht
  have HP := hide (Blk.new w 28 #[.int .i64 k, .int .i64 i, .int .i64 d, .string s, .string t])
  clear hs ht
  go_enter Tryz.func28, Tryz.ntmps28
  go_wp2_with fail
  refine (s_in p 1 30 _).mono ?_
  rintro e w' ⟨rfl, rfl⟩
  cases h1 : inB p 1 30
  · have H : Hid (rtxt p (k, i, d, s, t) = ⟨#[]⟩) := by show tb _ = _; rw [textL_1 (show inP p = false from h1)]; rfl
    clear h1
    go_wp2_with fail
    go_ret
    exact ⟨by rw [H.out]; rfl, hb.out⟩
  have H1 : Hid (inP p = true) := h1
  clear h1
  go_wp2_with fail
  refine (s_RV k i d s t _ HS.out HT.out).mono ?_
  rintro e w1 ⟨rfl, hb1⟩
  have Hb1 := hide (hb.out.trans (hb1.mono (by simp)))
  have HP1 := HP.out.below hb1 (by simp)
  have hp0 := HP1.cell 0
  have hp1 := HP1.cell 1
  have hp2 := HP1.cell 2
  have hp3 := HP1.cell 3
  have hp4 := HP1.cell 4
  have hlt := HP1.lt
  clear hb1 HP1
  cases h2 : reB (k, i, d, s, t)
  · have H : Hid (rtxt p (k, i, d, s, t) = ⟨#[]⟩) := by show tb _ = _; rw [textL_2 h2]; rfl
    clear h2
    go_wp2_with fail
    go_ret
    exact ⟨by rw [H.out]; rfl, Hb1.out⟩
  obtain ⟨m, rfl⟩ : ∃ m : Nat, p = (m : Int) := ⟨p.toNat, by have := inP_iff.1 H1.out; omega⟩
  have hm : m < 1000 := by have := inP_iff.1 H1.out; omega
  have H2 := hide h2
  have hz0 : ∀ z : Later w1.heap.size w1, z.it.cell? ⟨w.heap.size, 0, none⟩ = some (.int .i64 k) := fun z => (z.cell hlt).trans hp0
  have hz1 : ∀ z : Later w1.heap.size w1, z.it.cell? ⟨w.heap.size, 1, none⟩ = some (.int .i64 i) := fun z => (z.cell hlt).trans hp1
  have hz2 : ∀ z : Later w1.heap.size w1, z.it.cell? ⟨w.heap.size, 2, none⟩ = some (.int .i64 d) := fun z => (z.cell hlt).trans hp2
  have hz3 : ∀ z : Later w1.heap.size w1, z.it.cell? ⟨w.heap.size, 3, none⟩ = some (.string s) := fun z => (z.cell hlt).trans hp3
  have hz4 : ∀ z : Later w1.heap.size w1, z.it.cell? ⟨w.heap.size, 4, none⟩ = some (.string t) := fun z => (z.cell hlt).trans hp4
  clear h2 hp0 hp1 hp2 hp3 hp4
  have hd3 := decB_size m
  have hbz : (tb (bodL (k, i, d, s, t))).size ≤ 20 := bod_size H2.out
  go_wp2_with fail
  refine wp_region_later (B := w1.heap.size) (by kernel_rfl) (by kernel_rfl) ?_
  repeat (go_big_quiet_step ((first | (go_at_call 46; exact Later.dec _ _ hm (Nat.le_refl _)) | (go_at_call 47; exact Later.body _ _ _ _ _ _ H2.out (Nat.le_refl _)))))
  refine wpQuiet_nil ?_
  intro _ hw'
  obtain ⟨⟨w5, hb5⟩, hw''⟩ := hw'
  subst hw''
  have Hb5 := hide hb5
  clear hb5
  have HW := hide (Hb1.out.trans (Hb5.out.mono Hb1.out.size))
  clear hz0 hz1 hz2 hz3 hz4
  go_wp2_with fail
  obtain ⟨tx, htx⟩ : ∃ tx, decB m ++ { data := #[32] } ++ tb (bodL (k, i, d, s, t)) = tx := ⟨_, rfl⟩
  have htl : tx.data.toList = join4 m (k, i, d, s, t) := by rw [← htx]; simp [join4_bod, decB, tb_data]
  have hts : tx.size ≤ 24 := by rw [← htx, ByteArray.size_append, ByteArray.size_append]; show (decB m).size + 1 + _ ≤ 24; omega
  have HTL := hide htl
  have htm : tx.size ≤ maxLen := by unfold maxLen; omega
  rw [htx]
  clear htx htl
  refine (s_sum tx _ htm).mono ?_
  rintro e w' ⟨rfl, rfl⟩
  rw [HTL.out]
  obtain ⟨c, hc⟩ : ∃ c, chk (join4 m (k, i, d, s, t)) = c := ⟨_, rfl⟩
  have hc9 : c < 1000 := by have := chk_lt (join4 m (k, i, d, s, t)); omega
  have hd9 := decB_size c
  rw [hc]
  have HC := hide hc
  clear hc
  go_wp2_with fail
  refine (s_dec c _ hc9).mono ?_
  rintro e w6 ⟨rfl, hb6⟩
  have H : Hid (rtxt (m : Int) (k, i, d, s, t) = tx ++ ⟨#[32]⟩ ++ decB c) := by
    apply ba_ext
    show (tb _).data.toList = _
    rw [tb_data, textL_t H1.out H2.out, Int.toNat_natCast]
    show lineL m _ = _
    unfold lineL
    rw [HC.out, ← HTL.out]
    simp [decB, tb_data]
  have Hb6 := hide (HW.out.trans (hb6.mono HW.out.size))
  clear hb6
  go_wp2_with fail
  go_ret
  exact ⟨by rw [H.out]; rfl, Hb6.out⟩
end Go.Proofs.YtmofnmklodmkmaaGreatDoor
