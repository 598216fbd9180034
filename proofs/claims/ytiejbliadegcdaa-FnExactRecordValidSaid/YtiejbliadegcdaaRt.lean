/- RecordValid, the check, RecordText of the spec. -/
import Derived.Test.YtiejbliadegcdaaRd
import Derived.Test.YtiejbliadegcdaaLater
set_option linter.unusedVariables false
set_option linter.unusedSimpArgs false
namespace Go.Proofs.Ytiejbliadegcdaa
open Go.RowKit

/-- A record's value. -/
abbrev rV (k i d : Int) (s t : ByteArray) : Value := .agg #[.int .i64 k, .int .i64 i, .int .i64 d, .string s, .string t]
abbrev rC (k i d : Int) (s t : ByteArray) : Obj := .cells #[.int .i64 k, .int .i64 i, .int .i64 d, .string s, .string t] 24
theorem emB_eq (t : ByteArray) : t.toList.isEmpty = emB t := by unfold emB; rw [Lib.toList_data]

theorem beq_str (s t : ByteArray) : (s.toList == t.toList) = decide (s = t) := by
  rw [Bool.eq_iff_iff, beq_iff_eq, decide_eq_true_iff, Lib.toList_data, Lib.toList_data]
  constructor
  · intro h; rw [← tb_list s, h, tb_list]
  · rintro rfl; rfl

set_option maxHeartbeats 4000000 in
set_option maxRecDepth 100000 in
theorem s_RV (k i d : Int) (s t : ByteArray) (w : World) (hs : s.size ≤ maxLen) (ht : t.size ≤ maxLen) :
    Calls Try.prog 7 #[.agg #[.int .i64 k, .int .i64 i, .int .i64 d, .string s, .string t]] w fun e w' => e = .returned (.bool (reB (k, i, d, s, t))) ∧ Below w.heap.size w w' := by
  have hb := hide ((Below.refl w.heap.size w).alloc (Nat.le_refl _) (.cells #[.int .i64 k, .int .i64 i, .int .i64 d, .string s, .string t] 24))
  have HS := hide hs
  have HT := hide ht
  clear hs ht
  by_cases h1 : k = 1
  · subst h1
    have H0 : Hid (reB (1, i, d, s, t) = rePost (1, i, d, s, t)) := reB_1 rfl
    go_enter Try.func7, Try.ntmps7
    go_wp2_with fail
    refine (s_in i 1 999 _).mono ?_
    rintro e w' ⟨rfl, rfl⟩
    cases h2 : inB i 1 999
    · have H : Hid (rePost (1, i, d, s, t) = false) := by show _ = _; unfold rePost; rw [show inR i = false from h2]; rfl
      clear h2
      go_wp2_with fail
      go_ret
      exact ⟨by rw [H0.out, H.out]; rfl, hb.out⟩
    have H2 : Hid (inR i = true) := h2
    clear h2
    by_cases h3 : d = 0
    · subst h3
      go_wp2_with fail
      refine (s_NameValid s _ HS.out).mono ?_
      rintro e w' ⟨rfl, rfl⟩
      cases h4 : nvB s
      · have H : Hid (rePost (1, i, 0, s, t) = false) := by show _ = _; unfold rePost; rw [h4]; simp
        clear h4
        go_wp2_with fail
        go_ret
        exact ⟨by rw [H0.out, H.out]; rfl, hb.out⟩
      · have H : Hid (rePost (1, i, 0, s, t) = emB t) := by show _ = _; unfold rePost; rw [h4, H2.out]; simp
        clear h4
        go_wp2_with fail
        go_ret
        exact ⟨by rw [H0.out, H.out, ← emB_eq]; rfl, hb.out⟩
    · have H : Hid (rePost (1, i, d, s, t) = false) := by show _ = _; unfold rePost; simp [h3]
      have h3' : decide (d = 0) = false := by simpa using h3
      go_wp2_with fail
      go_ret
      exact ⟨by rw [H0.out, H.out]; rfl, hb.out⟩
  by_cases h2 : k = 2
  · subst h2
    have H0 : Hid (reB (2, i, d, s, t) = reMoved (2, i, d, s, t)) := reB_2 rfl
    clear h1
    go_enter Try.func7, Try.ntmps7
    go_wp2_with fail
    refine (s_in i 1 999 _).mono ?_
    rintro e w' ⟨rfl, rfl⟩
    cases h2 : inB i 1 999
    · have H : Hid (reMoved (2, i, d, s, t) = false) := by show _ = _; unfold reMoved; rw [show inR i = false from h2]; rfl
      clear h2
      go_wp2_with fail
      go_ret
      exact ⟨by rw [H0.out, H.out]; rfl, hb.out⟩
    have H2 : Hid (inR i = true) := h2
    clear h2
    go_wp2_with fail
    refine (s_in d 1 10 _).mono ?_
    rintro e w' ⟨rfl, rfl⟩
    cases h3 : inB d 1 10
    · have H : Hid (reMoved (2, i, d, s, t) = false) := by show _ = _; unfold reMoved; rw [show inT d = false from h3]; simp
      clear h3
      go_wp2_with fail
      go_ret
      exact ⟨by rw [H0.out, H.out]; rfl, hb.out⟩
    have H3 : Hid (inT d = true) := h3
    clear h3
    cases h4 : s.toList.isEmpty
    · have H : Hid (reMoved (2, i, d, s, t) = false) := by show _ = _; unfold reMoved; rw [← emB_eq s, h4]; simp
      go_wp2_with fail
      go_ret
      exact ⟨by rw [H0.out, H.out]; rfl, hb.out⟩
    · have H : Hid (reMoved (2, i, d, s, t) = emB t) := by show _ = _; unfold reMoved; rw [← emB_eq s, h4, H2.out, H3.out]; rfl
      go_wp2_with fail
      go_ret
      exact ⟨by rw [H0.out, H.out, ← emB_eq]; rfl, hb.out⟩
  by_cases h3 : k = 3
  · subst h3
    clear h1 h2
    have H0 : Hid (reB (3, i, d, s, t) = reTwo (3, i, d, s, t)) := reB_3 (by exact .inl rfl)
    by_cases h2 : i = 0
    · subst h2
      by_cases h3 : d = 0
      · subst h3
        go_enter Try.func7, Try.ntmps7
        go_wp2_with fail
        refine (s_NameValid s _ HS.out).mono ?_
        rintro e w' ⟨rfl, rfl⟩
        cases h4 : nvB s
        · have H : Hid (reTwo (3, 0, 0, s, t) = false) := by show _ = _; unfold reTwo; rw [h4]; simp
          clear h4
          go_wp2_with fail
          go_ret
          exact ⟨by rw [H0.out, H.out]; rfl, hb.out⟩
        have H4 := hide h4
        clear h4
        go_wp2_with fail
        refine (s_NameValid t _ HT.out).mono ?_
        rintro e w' ⟨rfl, rfl⟩
        cases h5 : nvB t
        · have H : Hid (reTwo (3, 0, 0, s, t) = false) := by show _ = _; unfold reTwo; rw [h5]; simp
          clear h5
          go_wp2_with fail
          go_ret
          exact ⟨by rw [H0.out, H.out]; rfl, hb.out⟩
        have H : Hid (reTwo (3, 0, 0, s, t) = !decide (s = t)) := by show _ = _; unfold reTwo; rw [h5, H4.out]; simp
        clear h5
        go_wp2_with fail
        go_ret
        exact ⟨by rw [H0.out, H.out]; first | rfl | simp [beq_str] | (rw [← beq_str]; rfl), hb.out⟩
      · have H : Hid (reTwo (3, 0, d, s, t) = false) := by show _ = _; unfold reTwo; simp [h3]
        have h3' : decide (d = 0) = false := by simpa using h3
        go_enter Try.func7, Try.ntmps7
        go_wp2_with fail
        go_ret
        exact ⟨by rw [H0.out, H.out]; rfl, hb.out⟩
    · have H : Hid (reTwo (3, i, d, s, t) = false) := by show _ = _; unfold reTwo; simp [h2]
      have h2' : decide (i = 0) = false := by simpa using h2
      go_enter Try.func7, Try.ntmps7
      go_wp2_with fail
      go_ret
      exact ⟨by rw [H0.out, H.out]; rfl, hb.out⟩
  by_cases h4 : k = 4
  · subst h4
    clear h1 h2 h3
    have H0 : Hid (reB (4, i, d, s, t) = reTwo (4, i, d, s, t)) := reB_3 (by exact .inr rfl)
    by_cases h2 : i = 0
    · subst h2
      by_cases h3 : d = 0
      · subst h3
        go_enter Try.func7, Try.ntmps7
        go_wp2_with fail
        refine (s_NameValid s _ HS.out).mono ?_
        rintro e w' ⟨rfl, rfl⟩
        cases h4 : nvB s
        · have H : Hid (reTwo (4, 0, 0, s, t) = false) := by show _ = _; unfold reTwo; rw [h4]; simp
          clear h4
          go_wp2_with fail
          go_ret
          exact ⟨by rw [H0.out, H.out]; rfl, hb.out⟩
        have H4 := hide h4
        clear h4
        go_wp2_with fail
        refine (s_NameValid t _ HT.out).mono ?_
        rintro e w' ⟨rfl, rfl⟩
        cases h5 : nvB t
        · have H : Hid (reTwo (4, 0, 0, s, t) = false) := by show _ = _; unfold reTwo; rw [h5]; simp
          clear h5
          go_wp2_with fail
          go_ret
          exact ⟨by rw [H0.out, H.out]; rfl, hb.out⟩
        have H : Hid (reTwo (4, 0, 0, s, t) = !decide (s = t)) := by show _ = _; unfold reTwo; rw [h5, H4.out]; simp
        clear h5
        go_wp2_with fail
        go_ret
        exact ⟨by rw [H0.out, H.out]; first | rfl | simp [beq_str] | (rw [← beq_str]; rfl), hb.out⟩
      · have H : Hid (reTwo (4, 0, d, s, t) = false) := by show _ = _; unfold reTwo; simp [h3]
        have h3' : decide (d = 0) = false := by simpa using h3
        go_enter Try.func7, Try.ntmps7
        go_wp2_with fail
        go_ret
        exact ⟨by rw [H0.out, H.out]; rfl, hb.out⟩
    · have H : Hid (reTwo (4, i, d, s, t) = false) := by show _ = _; unfold reTwo; simp [h2]
      have h2' : decide (i = 0) = false := by simpa using h2
      go_enter Try.func7, Try.ntmps7
      go_wp2_with fail
      go_ret
      exact ⟨by rw [H0.out, H.out]; rfl, hb.out⟩
  have H0 : Hid (reB (k, i, d, s, t) = false) := by show _ = _; unfold reB; simp [h1, h2, h3, h4]
  have d1 : decide (k = 1) = false := by simpa using h1
  have d2 : decide (k = 2) = false := by simpa using h2
  have d3 : decide (k = 3) = false := by simpa using h3
  have d4 : decide (k = 4) = false := by simpa using h4
  go_enter Try.func7, Try.ntmps7
  go_wp2_with fail
  go_ret
  exact ⟨by rw [H0.out]; rfl, hb.out⟩

theorem ba_ext {a b : ByteArray} (h : a.data.toList = b.data.toList) : a = b := by rw [← tb_list a, h, tb_list]
def bodL (r : Rec) : Txt := (wds r).1 ++ 32 :: ((wds r).2.1 ++ 32 :: (wds r).2.2)
theorem join4_bod (p : Nat) (r : Rec) : join4 p r = decL p ++ 32 :: bodL r := rfl
theorem cells5 {w : World} {k i d : Int} {s t : ByteArray} {T : TypeId} : ∀ z : Later (w.heap.size + 1) (w.alloc (.cells #[.int .i64 k, .int .i64 i, .int .i64 d, .string s, .string t] T)), z.it.cell? ⟨w.heap.size, 1, none⟩ = some (.int .i64 i) ∧ z.it.cell? ⟨w.heap.size, 2, none⟩ = some (.int .i64 d) ∧ z.it.cell? ⟨w.heap.size, 3, none⟩ = some (.string s) := fun z =>
  ⟨(z.cell (Nat.lt_succ_self _)).trans ((Blk.new w T _).cell 1), (z.cell (Nat.lt_succ_self _)).trans ((Blk.new w T _).cell 2), (z.cell (Nat.lt_succ_self _)).trans ((Blk.new w T _).cell 3)⟩
/-- The line of a record. -/
def rtxt (p : Int) (r : Rec) : ByteArray := tb (textL p r)
theorem bod_size {r : Rec} (h : reB r = true) : (tb (bodL r)).size ≤ 20 := by
  show (bodL r).toArray.size ≤ 20
  rw [List.size_toArray]
  rcases re_ways h with ⟨i, s, rfl, hi, hs⟩ | ⟨i, d, rfl, hi, hd⟩ | ⟨s, t, rfl | rfl, hs, ht, _⟩
  · have h1 : s.data.toList.length ≤ 4 := (nvB_size hs).2
    have h2 := (@decL_len i.toNat).2
    simp [bodL, wds, wPost] at h1 h2 ⊢
    omega
  · have h2 := (@decL_len i.toNat).2
    have h3 := (@decL_len d.toNat).2
    simp [bodL, wds, wMoved]
    omega
  · have h1 : s.data.toList.length ≤ 4 := (nvB_size hs).2
    have h2 : t.data.toList.length ≤ 4 := (nvB_size ht).2
    simp [bodL, wds, wFollow] at h1 h2 ⊢
    omega
  · have h1 : s.data.toList.length ≤ 4 := (nvB_size hs).2
    have h2 : t.data.toList.length ≤ 4 := (nvB_size ht).2
    simp [bodL, wds, wUnf] at h1 h2 ⊢
    omega
end Go.Proofs.Ytiejbliadegcdaa
