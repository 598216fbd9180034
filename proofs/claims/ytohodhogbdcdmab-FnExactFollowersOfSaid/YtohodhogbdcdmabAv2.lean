/- impl.AccountsValid. -/
import Derived.Test.YtohodhogbdcdmabAv
import Derived.Test.YtohodhogbdcdmabLater
import Derived.Outline
set_option linter.unusedVariables false
set_option linter.unusedSimpArgs false
namespace Go.Proofs.Ytohodhogbdcdmab
open Go.RowKit Go.BigFrame

theorem a_valid' {B : Nat} {W : World} (z : Later B W) (s : ByteArray) (A : Option Addr) (n c : Nat) (F : List ByteArray) (hF : Strs W B A n F) (hB : B ≤ W.heap.size) (hS : Small F) (hn : n ≤ maxLen) (hs : s.size ≤ maxLen) (b : Bool) (hb : accB (s, F) = b) :
    Calls Try.prog 47 #[.agg #[.string s, .slice A n c]] z.it fun e w'' => e = .returned (.bool b) ∧ ∃ z' : Later B W, w'' = z'.it := by
  subst hb
  have hsz := z.below.size
  exact Later.call ((a_valid s A n c F z.it ((hF.below z.below).more (by omega)) hS hn hs).mono fun e w' ⟨h1, h2⟩ => ⟨h1, h2.mono (by omega)⟩)

theorem AccsP.at' {w : World} {ok : Nat → Prop} {A : Option Addr} {n : Nat} {X : List Acc} {j : Nat} {a : Acc} (h : AccsP w ok A n X) (ha : X[j]? = some a) :
    ∃ g off A' n' c', A = some ⟨g, off, none⟩ ∧ ok g ∧ w.cell? ⟨g, off + j * 2, none⟩ = some (.string a.1) ∧ w.cell? ⟨g, off + j * 2 + 1, none⟩ = some (.slice A' n' c') ∧ n' ≤ c' ∧ n' ≤ maxLen ∧ Fls w ok (.slice A' n' c') a.2 := by
  have hj := (List.getElem?_eq_some_iff.1 ha).1
  obtain ⟨g, off, e, hb, hc⟩ := h.2 (by have := h.1; omega)
  obtain ⟨h1, u, h2, h3⟩ := hc j a ha
  obtain ⟨A', n', c', rfl, l1, l2, l3⟩ := h3
  exact ⟨g, off, A', n', c', e, hb, h1, h2, l1, l2, A', n', c', rfl, l1, l2, l3⟩
theorem Fls.strs {w : World} {B n c : Nat} {A : Option Addr} {F : List ByteArray} (h : Fls w (· < B) (.slice A n c) F) : Strs w B A n F := by
  obtain ⟨A', n', c', e, h1, h2, h3, h4⟩ := h
  injection e with e1 e2 e3
  subst e1 e2 e3
  exact ⟨h3, h4⟩

set_option maxHeartbeats 2000000 in
theorem i_As (A : Option Addr) (n c : Nat) (X : List Acc) (w : World) (hX : Accs w w.heap.size A n X) (hS : ASmall X) (hn : n ≤ maxLen) :
    Calls Try.prog 20 #[.slice A n c] w fun e w' => e = .returned (.bool (asB X)) ∧ Below w.heap.size w w' := by
  unfold maxLen at hn
  have hl := hide hX.1
  by_cases h6 : 6 < n
  · have H : Hid (asB X = false) := asB_len (by have := hl.out; omega)
    clear hX hS
    go_enter Try.func20, Try.ntmps20
    go_wp2_with fail
    go_ret
    exact ⟨ret_bool H.out.symm, Below.refl _ _⟩
  have HX := hide hX
  have HS := hide hS
  clear hX hS
  go_enter Try.func20, Try.ntmps20
  go_wp2_with fail
  go_loopw [3, 4, 10] (fun _ _ i wr => ∃ k : Nat, k ≤ n ∧ i = .int .i64 k ∧ Hid (AUpto X k) ∧ Hid (Below w.heap.size w wr)) (fun _ _ i _ => n - (intOf i).toNat)
  case atStart => exact ⟨0, Nat.zero_le _, rfl, AUpto.zero X, Below.refl _ _⟩
  case round =>
    obtain ⟨k, hk, rfl, hu, hbr⟩ := hrel
    by_cases hlt : k < n
    · obtain ⟨a, ha⟩ : ∃ a, X[k]? = some a := ⟨X[k]'(by have := hl.out; omega), List.getElem?_eq_getElem _⟩
      obtain ⟨g, off, A', n', c', rfl, hg, hc0, hc1, hn', hm', hf⟩ := (HX.out.below hbr.out).at' ha
      have hsm := HS.out a (List.mem_of_getElem? ha)
      have hsz := hbr.out.size
      have HF' : Hid (Strs (wr.alloc (.cells #[Value.string a.1, Value.slice A' n' c'] 31)) (wr.heap.size + 1) A' n' a.2) := (hf.strs.alloc hsz _).more (by omega)
      have HB : Hid (wr.heap.size + 1 ≤ (wr.alloc (.cells #[Value.string a.1, Value.slice A' n' c'] 31)).heap.size) := by simp [Hid]
      have Hba : Hid (Below w.heap.size w (wr.alloc (.cells #[Value.string a.1, Value.slice A' n' c'] 31))) := hbr.out.alloc hsz _
      have hz0 : ∀ z : Later (wr.heap.size + 1) (wr.alloc (.cells #[Value.string a.1, Value.slice A' n' c'] 31)), z.it.cell? ⟨wr.heap.size, 0, none⟩ = some (.string a.1) := fun z => (z.cell (by omega)).trans ((Blk.new _ _ _).cell 0)
      have hz1 : ∀ z : Later (wr.heap.size + 1) (wr.alloc (.cells #[Value.string a.1, Value.slice A' n' c'] 31)), z.it.cell? ⟨wr.heap.size, 1, none⟩ = some (.slice A' n' c') := fun z => (z.cell (by omega)).trans ((Blk.new _ _ _).cell 1)
      clear hf
      cases hv : accB a
      · have H : Hid (asB X = false) := asB_bad ha hv
        have HV : Hid (accB (a.1, a.2) = false) := hv
        clear ha hv
        go_wp2_with fail
        refine wp_region_later (B := (wr.heap.size + 1)) (by kernel_rfl) (by kernel_rfl) ?_
        repeat (go_big_quiet_step ((go_at_call 47; exact a_valid' _ a.1 A' n' c' a.2 HF'.out HB.out hsm.2 hm' hsm.1 false HV.out)))
        refine wpQuiet_nil ?_
        intro _ hw'
        obtain ⟨⟨w5, hb5⟩, hw''⟩ := hw'
        subst hw''
        have Hb5 := hide hb5
        clear hb5
        go_wp2_with fail
        go_ret
        exact ⟨ret_bool H.out.symm, Hba.out.trans (Hb5.out.mono (by omega))⟩
      · have HV : Hid (accB (a.1, a.2) = true) := hv
        rcases k with _ | k
        · have H : Hid (AUpto X 1) := AUpto.one ha hv
          clear ha hv
          rw [Nat.zero_mul, Nat.add_zero] at hc0 hc1
          go_wp2_with fail
          refine wp_region_later (B := (wr.heap.size + 1)) (by kernel_rfl) (by kernel_rfl) ?_
          repeat (go_big_quiet_step ((go_at_call 47; exact a_valid' _ a.1 A' n' c' a.2 HF'.out HB.out hsm.2 hm' hsm.1 true HV.out)))
          refine wpQuiet_nil ?_
          intro _ hw'
          obtain ⟨⟨w5, hb5⟩, hw''⟩ := hw'
          subst hw''
          have Hb5 := hide hb5
          clear hb5
          go_wp2_with fail
          go_roundw
          case rel => exact ⟨1, by omega, by go_num, H, Hba.out.trans (Hb5.out.mono (by omega))⟩
          case measure => simp [intOf]; omega
        · obtain ⟨r, hr⟩ : ∃ r, X[k]? = some r := ⟨X[k]'(by have := hl.out; omega), List.getElem?_eq_getElem _⟩
          obtain ⟨g', off', A2, n2, c2, e1, _, hr0, _⟩ := (HX.out.below hbr.out).at' hr
          injection e1 with e1
          injection e1 with e1 e2
          subst e1 e2
          have hz2 : ∀ z : Later (wr.heap.size + 1) (wr.alloc (.cells #[Value.string a.1, Value.slice A' n' c'] 31)), z.it.cell? ⟨g, off + k * 2, none⟩ = some (.string r.1) := fun z => (z.cell (by omega)).trans ((World.cell?_alloc_old _ _ _ (by simp; omega)).trans hr0)
          have hk1 : (k : Int) + 1 < (n : Int) := by omega
          cases hrs : blt r.1 a.1
          · have H : Hid (asB X = false) := asB_turn hr ha hrs
            have hrs' : Op.bytesLess r.1.toList a.1.toList = false := hrs
            clear ha hr hv hrs hr0
            go_wp2_with fail
            refine wp_region_later (B := (wr.heap.size + 1)) (by kernel_rfl) (by kernel_rfl) ?_
            repeat (go_big_quiet_step ((go_at_call 47; exact a_valid' _ a.1 A' n' c' a.2 HF'.out HB.out hsm.2 hm' hsm.1 true HV.out)))
            refine wpQuiet_nil ?_
            intro _ hw'
            obtain ⟨⟨w5, hb5⟩, hw''⟩ := hw'
            subst hw''
            have Hb5 := hide hb5
            clear hb5
            go_wp2_with fail
            go_ret
            exact ⟨ret_bool H.out.symm, Hba.out.trans (Hb5.out.mono (by omega))⟩
          · have H : Hid (AUpto X (k + 2)) := hu.out.more hr ha hv hrs
            have hrs' : Op.bytesLess r.1.toList a.1.toList = true := hrs
            clear ha hr hv hrs hr0
            go_wp2_with fail
            refine wp_region_later (B := (wr.heap.size + 1)) (by kernel_rfl) (by kernel_rfl) ?_
            repeat (go_big_quiet_step ((go_at_call 47; exact a_valid' _ a.1 A' n' c' a.2 HF'.out HB.out hsm.2 hm' hsm.1 true HV.out)))
            refine wpQuiet_nil ?_
            intro _ hw'
            obtain ⟨⟨w5, hb5⟩, hw''⟩ := hw'
            subst hw''
            have Hb5 := hide hb5
            clear hb5
            go_wp2_with fail
            go_roundw
            case rel => exact ⟨k + 2, by omega, by go_num, H, Hba.out.trans (Hb5.out.mono (by omega))⟩
            case measure => simp [intOf]; omega
    · have H : Hid (asB X = true) := AUpto.all (by have h1 := hu.out; have h2 := hl.out; rw [h2]; rw [show n = k by omega]; exact h1) (by have := hl.out; omega)
      go_wp2_with fail
      go_ret
      exact ⟨ret_bool H.out.symm, hbr.out⟩
end Go.Proofs.Ytohodhogbdcdmab
