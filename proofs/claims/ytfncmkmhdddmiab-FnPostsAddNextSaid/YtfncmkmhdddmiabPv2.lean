/- spec.PostsValid. -/
import Derived.Test.YtfncmkmhdddmiabPv
set_option linter.unusedVariables false
set_option linter.unusedSimpArgs false
namespace Go.Proofs.Ytfncmkmhdddmiab
open Go.RowKit Go.BigFrame

theorem Later.NVs {B : Nat} {W : World} (z : Later B W) {s : ByteArray} {b : Bool} (h : nvB s = b) (hs : s.size ≤ maxLen) :
    Calls Try.prog 49 #[.string s] z.it fun e w'' => e = .returned (.bool b) ∧ ∃ z' : Later B W, w'' = z'.it := Later.same (s_NV h _ hs)
theorem Later.inR {B : Nat} {W : World} (z : Later B W) {n lo hi : Int} {b : Bool} (h : inB n lo hi = b) :
    Calls Try.prog 48 #[.int .i64 n, .int .i64 lo, .int .i64 hi] z.it fun e w'' => e = .returned (.bool b) ∧ ∃ z' : Later B W, w'' = z'.it := by
  subst h; exact Later.same (s_in n lo hi _)
theorem pstB_in {a : Pst} (h : inB a.1 1 999 = false) : pstB a = false := by
  unfold inB at h
  rw [← Bool.not_eq_true, pstB_iff]
  rintro ⟨h1, h2, _⟩
  simp [h1, h2] at h
theorem pstB_of {a : Pst} (h : inB a.1 1 999 = true) (h3 : nvB a.2 = true) : pstB a = true := by
  unfold inB at h
  simp at h
  exact pstB_t h.1 h.2 h3

set_option maxHeartbeats 2000000 in
theorem s_Ps (A : Option Addr) (n c : Nat) (X : List Pst) (w : World) (hX : Psts w w.heap.size A n X) (hS : PSmall X) (hn : n ≤ maxLen) :
    Calls Try.prog 26 #[.slice A n c] w fun e w' => e = .returned (.bool (psB X)) ∧ Below w.heap.size w w' := by
  unfold maxLen at hn
  have hl := hide hX.1
  have HX := hide hX
  have HS := hide hS
  clear hX hS
  go_enter Try.func26, Try.ntmps26
  go_wp2_with fail
  go_loopw [3] (fun i wr => ∃ k : Nat, k ≤ n ∧ i = .int .i64 k ∧ Hid (PUpto X k) ∧ Hid (Below w.heap.size w wr)) (fun i _ => n - (intOf i).toNat)
  case atStart => exact ⟨0, Nat.zero_le _, rfl, PUpto.zero X, Below.refl _ _⟩
  case round =>
    obtain ⟨k, hk, rfl, hu, hbr⟩ := hrel
    by_cases hlt : k < n
    · obtain ⟨a, ha⟩ : ∃ a, X[k]? = some a := ⟨X[k]'(by have := hl.out; omega), List.getElem?_eq_getElem _⟩
      obtain ⟨g, off, rfl, hg, hc0, hc1⟩ := (HX.out.below hbr.out).at' ha
      have Hsm := hide (HS.out a (List.mem_of_getElem? ha))
      have hsz := hbr.out.size
      have hz0 : ∀ z : Later w.heap.size wr, z.it.cell? ⟨g, off + k * 2, none⟩ = some (.int .i64 a.1) := fun z => (z.cell hg).trans hc0
      have hz1 : ∀ z : Later w.heap.size wr, z.it.cell? ⟨g, off + k * 2 + 1, none⟩ = some (.string a.2) := fun z => (z.cell hg).trans hc1
      clear hc0 hc1
      cases h1 : inB a.1 1 999
      · have H : Hid (psB X = false) := psB_bad ha (pstB_in h1)
        have H1 := hide h1
        clear ha h1
        go_wp2_with fail
        refine wp_region_later (B := w.heap.size) (by kernel_rfl) (by kernel_rfl) ?_
        repeat (go_big_quiet_step ((first | (go_at_call 48; exact Later.inR _ H1.out))))
        refine wpQuiet_nil ?_
        intro _ hw'
        obtain ⟨⟨w5, hb5⟩, hw''⟩ := hw'
        subst hw''
        have Hb5 := hide hb5
        clear hb5
        go_wp2_with fail
        go_ret
        exact ⟨ret_bool H.out.symm, hbr.out.trans Hb5.out⟩
      have H1 := hide h1
      cases h2 : nvB a.2
      · have H : Hid (psB X = false) := psB_bad ha (pstB_3 h2)
        have H2 := hide h2
        clear ha h1 h2
        go_wp2_with fail
        refine wp_region_later (B := w.heap.size) (by kernel_rfl) (by kernel_rfl) ?_
        repeat (go_big_quiet_step ((first | (go_at_call 48; exact Later.inR _ H1.out) | (go_at_call 49; exact Later.NVs _ H2.out Hsm.out))))
        refine wpQuiet_nil ?_
        intro _ hw'
        obtain ⟨⟨w5, hb5⟩, hw''⟩ := hw'
        subst hw''
        have Hb5 := hide hb5
        clear hb5
        go_wp2_with fail
        go_ret
        exact ⟨ret_bool H.out.symm, hbr.out.trans Hb5.out⟩
      have H2 := hide h2
      have hv := pstB_of h1 h2
      clear h1 h2
      rcases k with _ | k
      · have H : Hid (PUpto X 1) := PUpto.one ha hv
        clear ha hv
        rw [Nat.zero_mul, Nat.add_zero] at hz0 hz1
        go_wp2_with fail
        refine wp_region_later (B := w.heap.size) (by kernel_rfl) (by kernel_rfl) ?_
        repeat (go_big_quiet_step ((first | (go_at_call 48; exact Later.inR _ H1.out) | (go_at_call 49; exact Later.NVs _ H2.out Hsm.out))))
        refine wpQuiet_nil ?_
        intro _ hw'
        obtain ⟨⟨w5, hb5⟩, hw''⟩ := hw'
        subst hw''
        have Hb5 := hide hb5
        clear hb5
        go_wp2_with fail
        go_roundw
        case rel => exact ⟨1, by omega, by go_num, H, hbr.out.trans Hb5.out⟩
        case measure => simp [intOf]; omega
      · obtain ⟨r, hr⟩ : ∃ r, X[k]? = some r := ⟨X[k]'(by have := hl.out; omega), List.getElem?_eq_getElem _⟩
        obtain ⟨g', off', e1, _, hr0, _⟩ := (HX.out.below hbr.out).at' hr
        injection e1 with e1
        injection e1 with e1 e2
        subst e1 e2
        have hz2 : ∀ z : Later w.heap.size wr, z.it.cell? ⟨g, off + k * 2, none⟩ = some (.int .i64 r.1) := fun z => (z.cell hg).trans hr0
        have hk1 : (k : Int) + 1 < (n : Int) := by omega
        by_cases hrs : a.1 ≤ r.1
        · have H : Hid (psB X = false) := psB_turn hr ha hrs
          clear ha hr hv hr0
          go_wp2_with fail
          refine wp_region_later (B := w.heap.size) (by kernel_rfl) (by kernel_rfl) ?_
          repeat (go_big_quiet_step ((first | (go_at_call 48; exact Later.inR _ H1.out) | (go_at_call 49; exact Later.NVs _ H2.out Hsm.out))))
          refine wpQuiet_nil ?_
          intro _ hw'
          obtain ⟨⟨w5, hb5⟩, hw''⟩ := hw'
          subst hw''
          have Hb5 := hide hb5
          clear hb5
          go_wp2_with fail
          go_ret
          exact ⟨ret_bool H.out.symm, hbr.out.trans Hb5.out⟩
        · have H : Hid (PUpto X (k + 2)) := hu.out.more hr ha hv (by omega)
          clear ha hr hv hr0
          go_wp2_with fail
          refine wp_region_later (B := w.heap.size) (by kernel_rfl) (by kernel_rfl) ?_
          repeat (go_big_quiet_step ((first | (go_at_call 48; exact Later.inR _ H1.out) | (go_at_call 49; exact Later.NVs _ H2.out Hsm.out))))
          refine wpQuiet_nil ?_
          intro _ hw'
          obtain ⟨⟨w5, hb5⟩, hw''⟩ := hw'
          subst hw''
          have Hb5 := hide hb5
          clear hb5
          go_wp2_with fail
          go_roundw
          case rel => exact ⟨k + 2, by omega, by go_num, H, hbr.out.trans Hb5.out⟩
          case measure => simp [intOf]; omega
    · have H : Hid (psB X = decide ((n : Int) ≤ 12)) := by
        have h1 := hu.out
        have h2 := hl.out
        rw [show k = n by omega, ← h2] at h1
        by_cases h6 : X.length ≤ 12
        · exact (h1.all h6).trans (by simp; omega)
        · exact (psB_len (by omega)).trans (by simp; omega)
      go_wp2_with fail
      go_ret
      exact ⟨ret_bool H.out.symm, hbr.out⟩
end Go.Proofs.Ytfncmkmhdddmiab
