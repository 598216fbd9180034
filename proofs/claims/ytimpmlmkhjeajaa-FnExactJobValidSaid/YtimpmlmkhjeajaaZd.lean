/- Texts joined: Av, Av2, Av3, Book, Fof. -/
import Derived.Test.YtimpmlmkhjeajaaZc
import Derived.Outline
import Derived.Test.YtimpmlmkhjeajaaZb
import Derived.Deep.DeepMust
import Derived.WalkSpells

/- AccountsValid of both, l2At. -/
namespace Go.Proofs.Ytimpmlmkhjeajaa
open Go.RowKit

set_option maxHeartbeats 1000000 in
theorem a_valid (s : ByteArray) (A : Option Addr) (n c : Nat) (F : List ByteArray) (w : World) (hF : Strs w w.heap.size A n F) (hS : Small F) (hn : n ≤ maxLen) (hs : s.size ≤ maxLen) :
    Calls Try.prog 123 #[.agg #[.string s, .slice A n c]] w fun e w' => e = .returned (.bool (accB (s, F))) ∧ Below w.heap.size w w' := by
  have HF := hide hF
  have HS := hide hS
  have HN := hide hn
  have Hs := hide hs
  clear hF hS hn hs
  have HF' : ∀ T, Hid (Strs (w.alloc (.cells #[.string s, .slice A n c] T)) (w.alloc (.cells #[.string s, .slice A n c] T)).heap.size A n F) := fun T => hide (HF.out.on ((Below.refl _ _).alloc (Nat.le_refl _) _))
  go_enter Try.func123, Try.ntmps123
  go_wp2_with fail
  refine (i_NameValid s _ Hs.out).mono ?_
  rintro e w' ⟨rfl, rfl⟩
  cases h1 : nvB s
  · have H : Hid (accB (s, F) = false) := by show _ = _; unfold accB; rw [h1]; rfl
    go_wp2_with fail
    go_ret
    exact ⟨ret_bool H.out.symm, (Below.refl _ _).alloc (Nat.le_refl _) _⟩
  go_wp2_with fail
  refine (i_NamesValid A n c F _ (HF' _).out HS.out HN.out).mono ?_
  rintro e w' ⟨rfl, rfl⟩
  cases h2 : nsB F
  · have H : Hid (accB (s, F) = false) := by show _ = _; unfold accB; rw [h2, Bool.and_false]; rfl
    go_wp2_with fail
    go_ret
    exact ⟨ret_bool H.out.symm, (Below.refl _ _).alloc (Nat.le_refl _) _⟩
  go_wp2_with fail
  refine (c_has A n c F s _ (HF' _).out HN.out).mono ?_
  rintro e w' ⟨rfl, rfl⟩
  have H : Hid (accB (s, F) = !memB F s) := by show _ = _; unfold accB; rw [h1, h2]; rfl
  go_wp2_with fail
  go_ret
  exact ⟨ret_bool H.out.symm, (Below.refl _ _).alloc (Nat.le_refl _) _⟩
end Go.Proofs.Ytimpmlmkhjeajaa

/- impl.AccountsValid. -/
set_option linter.unusedVariables false
set_option linter.unusedSimpArgs false
namespace Go.Proofs.Ytimpmlmkhjeajaa
open Go.RowKit Go.BigFrame

theorem a_valid' {B : Nat} {W : World} (z : Later B W) (s : ByteArray) (A : Option Addr) (n c : Nat) (F : List ByteArray) (hF : Strs W B A n F) (hB : B ≤ W.heap.size) (hS : Small F) (hn : n ≤ maxLen) (hs : s.size ≤ maxLen) (b : Bool) (hb : accB (s, F) = b) :
    Calls Try.prog 123 #[.agg #[.string s, .slice A n c]] z.it fun e w'' => e = .returned (.bool b) ∧ ∃ z' : Later B W, w'' = z'.it := by
  subst hb
  have hsz := z.below.size
  exact Later.call ((a_valid s A n c F z.it ((hF.below z.below).more (by omega)) hS hn hs).mono fun e w' ⟨h1, h2⟩ => ⟨h1, h2.mono (by omega)⟩)

theorem AccsP.at' {w : World} {ok : Nat → Prop} {A : Option Addr} {n : Nat} {X : List Acc} {j : Nat} {a : Acc} (h : AccsP w ok A n X) (ha : X[j]? = some a) :
    ∃ g off A' n' c', A = some ⟨g, off, none⟩ ∧ ok g ∧ w.cell? ⟨g, off + j * 2, none⟩ = some (.string a.1) ∧ w.cell? ⟨g, off + j * 2 + 1, none⟩ = some (.slice A' n' c') ∧ n' ≤ c' ∧ n' ≤ maxLen ∧ Fls w ok (.slice A' n' c') a.2 := by
  have hj := (List.getElem?_eq_some_iff.1 ha).1
  obtain ⟨g, off, e, hb, hc⟩ := h.2 (by have := h.1; omega)
  obtain ⟨h1, u, h2, h3⟩ := hc j a ha
  obtain ⟨A', n', c', rfl, l1, l2, l3⟩ := h3
  exact ⟨g, off, A', n', c', e, hb, h1, h2, l1, l2, A', n', c', rfl, l1, l2, l3⟩
theorem Fls.strs {w : World} {B n c : Nat} {A : Option Addr} {F : List ByteArray} (h : Fls w (· < B) (.slice A n c) F) : Strs w B A n F := by
  obtain ⟨A', n', c', e, h1, h2, h3, h4⟩ := h
  injection e with e1 e2 e3
  subst e1 e2 e3
  exact ⟨h3, h4⟩

set_option maxHeartbeats 2000000 in
theorem i_As (A : Option Addr) (n c : Nat) (X : List Acc) (w : World) (hX : Accs w w.heap.size A n X) (hS : ASmall X) (hn : n ≤ maxLen) :
    Calls Try.prog 101 #[.slice A n c] w fun e w' => e = .returned (.bool (asB X)) ∧ Below w.heap.size w w' := by
  unfold maxLen at hn
  have hl := hide hX.1
  by_cases h6 : 6 < n
  · have H : Hid (asB X = false) := asB_len (by have := hl.out; omega)
    clear hX hS
    go_enter Try.func101, Try.ntmps101
    go_wp2_with fail
    go_ret
    exact ⟨ret_bool H.out.symm, Below.refl _ _⟩
  have HX := hide hX
  have HS := hide hS
  clear hX hS
  go_enter Try.func101, Try.ntmps101
  go_wp2_with fail
  go_loopw [3, 4, 10] (fun _ _ i wr => ∃ k : Nat, k ≤ n ∧ i = .int .i64 k ∧ Hid (AUpto X k) ∧ Hid (Below w.heap.size w wr)) (fun _ _ i _ => n - (intOf i).toNat)
  case atStart => exact ⟨0, Nat.zero_le _, rfl, AUpto.zero X, Below.refl _ _⟩
  case round =>
    obtain ⟨k, hk, rfl, hu, hbr⟩ := hrel
    by_cases hlt : k < n
    · obtain ⟨a, ha⟩ : ∃ a, X[k]? = some a := ⟨X[k]'(by have := hl.out; omega), List.getElem?_eq_getElem _⟩
      obtain ⟨g, off, A', n', c', rfl, hg, hc0, hc1, hn', hm', hf⟩ := (HX.out.below hbr.out).at' ha
      have hsm := HS.out a (List.mem_of_getElem? ha)
      have hsz := hbr.out.size
      have HF' : Hid (Strs (wr.alloc (.cells #[Value.string a.1, Value.slice A' n' c'] 79)) (wr.heap.size + 1) A' n' a.2) := (hf.strs.alloc hsz _).more (by omega)
      have HB : Hid (wr.heap.size + 1 ≤ (wr.alloc (.cells #[Value.string a.1, Value.slice A' n' c'] 79)).heap.size) := by simp [Hid]
      have Hba : Hid (Below w.heap.size w (wr.alloc (.cells #[Value.string a.1, Value.slice A' n' c'] 79))) := hbr.out.alloc hsz _
      have hz0 : ∀ z : Later (wr.heap.size + 1) (wr.alloc (.cells #[Value.string a.1, Value.slice A' n' c'] 79)), z.it.cell? ⟨wr.heap.size, 0, none⟩ = some (.string a.1) := fun z => (z.cell (by omega)).trans ((Blk.new _ _ _).cell 0)
      have hz1 : ∀ z : Later (wr.heap.size + 1) (wr.alloc (.cells #[Value.string a.1, Value.slice A' n' c'] 79)), z.it.cell? ⟨wr.heap.size, 1, none⟩ = some (.slice A' n' c') := fun z => (z.cell (by omega)).trans ((Blk.new _ _ _).cell 1)
      clear hf
      cases hv : accB a
      · have H : Hid (asB X = false) := asB_bad ha hv
        have HV : Hid (accB (a.1, a.2) = false) := hv
        clear ha hv
        go_wp2_with fail
        refine wp_region_later (B := (wr.heap.size + 1)) (by kernel_rfl) (by kernel_rfl) ?_
        repeat (go_big_quiet_step ((go_at_call 123; exact a_valid' _ a.1 A' n' c' a.2 HF'.out HB.out hsm.2 hm' hsm.1 false HV.out)))
        refine wpQuiet_nil ?_
        intro _ hw'
        obtain ⟨⟨w5, hb5⟩, hw''⟩ := hw'
        subst hw''
        have Hb5 := hide hb5
        clear hb5
        go_wp2_with fail
        go_ret
        exact ⟨ret_bool H.out.symm, Hba.out.trans (Hb5.out.mono (by omega))⟩
      · have HV : Hid (accB (a.1, a.2) = true) := hv
        rcases k with _ | k
        · have H : Hid (AUpto X 1) := AUpto.one ha hv
          clear ha hv
          rw [Nat.zero_mul, Nat.add_zero] at hc0 hc1
          go_wp2_with fail
          refine wp_region_later (B := (wr.heap.size + 1)) (by kernel_rfl) (by kernel_rfl) ?_
          repeat (go_big_quiet_step ((go_at_call 123; exact a_valid' _ a.1 A' n' c' a.2 HF'.out HB.out hsm.2 hm' hsm.1 true HV.out)))
          refine wpQuiet_nil ?_
          intro _ hw'
          obtain ⟨⟨w5, hb5⟩, hw''⟩ := hw'
          subst hw''
          have Hb5 := hide hb5
          clear hb5
          go_wp2_with fail
          go_roundw
          case rel => exact ⟨1, by omega, by go_num, H, Hba.out.trans (Hb5.out.mono (by omega))⟩
          case measure => simp [intOf]; omega
        · obtain ⟨r, hr⟩ : ∃ r, X[k]? = some r := ⟨X[k]'(by have := hl.out; omega), List.getElem?_eq_getElem _⟩
          obtain ⟨g', off', A2, n2, c2, e1, _, hr0, _⟩ := (HX.out.below hbr.out).at' hr
          injection e1 with e1
          injection e1 with e1 e2
          subst e1 e2
          have hz2 : ∀ z : Later (wr.heap.size + 1) (wr.alloc (.cells #[Value.string a.1, Value.slice A' n' c'] 79)), z.it.cell? ⟨g, off + k * 2, none⟩ = some (.string r.1) := fun z => (z.cell (by omega)).trans ((World.cell?_alloc_old _ _ _ (by simp; omega)).trans hr0)
          have hk1 : (k : Int) + 1 < (n : Int) := by omega
          cases hrs : blt r.1 a.1
          · have H : Hid (asB X = false) := asB_turn hr ha hrs
            have hrs' : Op.bytesLess r.1.toList a.1.toList = false := hrs
            clear ha hr hv hrs hr0
            go_wp2_with fail
            refine wp_region_later (B := (wr.heap.size + 1)) (by kernel_rfl) (by kernel_rfl) ?_
            repeat (go_big_quiet_step ((go_at_call 123; exact a_valid' _ a.1 A' n' c' a.2 HF'.out HB.out hsm.2 hm' hsm.1 true HV.out)))
            refine wpQuiet_nil ?_
            intro _ hw'
            obtain ⟨⟨w5, hb5⟩, hw''⟩ := hw'
            subst hw''
            have Hb5 := hide hb5
            clear hb5
            go_wp2_with fail
            go_ret
            exact ⟨ret_bool H.out.symm, Hba.out.trans (Hb5.out.mono (by omega))⟩
          · have H : Hid (AUpto X (k + 2)) := hu.out.more hr ha hv hrs
            have hrs' : Op.bytesLess r.1.toList a.1.toList = true := hrs
            clear ha hr hv hrs hr0
            go_wp2_with fail
            refine wp_region_later (B := (wr.heap.size + 1)) (by kernel_rfl) (by kernel_rfl) ?_
            repeat (go_big_quiet_step ((go_at_call 123; exact a_valid' _ a.1 A' n' c' a.2 HF'.out HB.out hsm.2 hm' hsm.1 true HV.out)))
            refine wpQuiet_nil ?_
            intro _ hw'
            obtain ⟨⟨w5, hb5⟩, hw''⟩ := hw'
            subst hw''
            have Hb5 := hide hb5
            clear hb5
            go_wp2_with fail
            go_roundw
            case rel => exact ⟨k + 2, by omega, by go_num, H, Hba.out.trans (Hb5.out.mono (by omega))⟩
            case measure => simp [intOf]; omega
    · have H : Hid (asB X = true) := AUpto.all (by have h1 := hu.out; have h2 := hl.out; rw [h2]; rw [show n = k by omega]; exact h1) (by have := hl.out; omega)
      go_wp2_with fail
      go_ret
      exact ⟨ret_bool H.out.symm, hbr.out⟩
end Go.Proofs.Ytimpmlmkhjeajaa

/- spec.AccountsValid. -/
set_option linter.unusedVariables false
set_option linter.unusedSimpArgs false
namespace Go.Proofs.Ytimpmlmkhjeajaa
open Go.RowKit Go.BigFrame

theorem Later.NV {B : Nat} {W : World} (z : Later B W) {s : ByteArray} {b : Bool} (h : nvB s = b) (hs : s.size ≤ maxLen) :
    Calls Try.prog 102 #[.string s] z.it fun e w'' => e = .returned (.bool b) ∧ ∃ z' : Later B W, w'' = z'.it := Later.same (s_NV h _ hs)
theorem Later.NsV {B : Nat} {W : World} (z : Later B W) (A : Option Addr) (n c : Nat) (L : List ByteArray) {b : Bool} (h : nsB L = b) (hL : Strs W B A n L) (hB : B ≤ W.heap.size) (hS : Small L) (hn : n ≤ maxLen) :
    Calls Try.prog 88 #[.slice A n c] z.it fun e w'' => e = .returned (.bool b) ∧ ∃ z' : Later B W, w'' = z'.it := by
  subst h
  exact Later.drew (s_NamesValid A n c L z.it ((hL.below z.below).more (by have := z.below.size; omega)) hS hn)
theorem Later.at1 {B : Nat} {W : World} (z : Later B W) (A : Option Addr) (n c : Nat) (L : List ByteArray) (s : ByteArray) {k : Int} (h : atI L s = k) (hL : Strs W B A n L) (hB : B ≤ W.heap.size) (hn : n ≤ maxLen) :
    Calls Try.prog 103 #[.slice A n c, .string s] z.it fun e w'' => e = .returned (.int .i64 k) ∧ ∃ z' : Later B W, w'' = z'.it := by
  subst h
  exact Later.same (s_at A n c L s z.it ((hL.below z.below).more (by have := z.below.size; omega)) hn)
theorem accB_1 {a : Acc} (h : nvB a.1 = false) : accB a = false := by unfold accB; rw [h]; rfl
theorem accB_2 {a : Acc} (h : nsB a.2 = false) : accB a = false := by unfold accB; rw [h, Bool.and_false]; rfl
theorem accB_3 {a : Acc} (h : memB a.2 a.1 = true) : accB a = false := by unfold accB; rw [h, Bool.not_true, Bool.and_false]
theorem accB_t {a : Acc} (h1 : nvB a.1 = true) (h2 : nsB a.2 = true) (h3 : memB a.2 a.1 = false) : accB a = true := by unfold accB; rw [h1, h2, h3]; rfl
theorem atI_t {L : List ByteArray} {s : ByteArray} (h : memB L s = true) : ∃ k : Nat, atI L s = k := ⟨L.findIdx (fun t => decide (t = s)), by unfold atI; rw [h]; rfl⟩
theorem atI_f {L : List ByteArray} {s : ByteArray} (h : memB L s = false) : atI L s = -1 := by unfold atI; rw [h]; rfl

set_option maxHeartbeats 2000000 in
theorem s_As (A : Option Addr) (n c : Nat) (X : List Acc) (w : World) (hX : Accs w w.heap.size A n X) (hS : ASmall X) (hn : n ≤ maxLen) :
    Calls Try.prog 64 #[.slice A n c] w fun e w' => e = .returned (.bool (asB X)) ∧ Below w.heap.size w w' := by
  unfold maxLen at hn
  have hl := hide hX.1
  have HX := hide hX
  have HS := hide hS
  clear hX hS
  go_enter Try.func64, Try.ntmps64
  go_wp2_with fail
  go_loopw [3] (fun i wr => ∃ k : Nat, k ≤ n ∧ i = .int .i64 k ∧ Hid (AUpto X k) ∧ Hid (Below w.heap.size w wr)) (fun i _ => n - (intOf i).toNat)
  case atStart => exact ⟨0, Nat.zero_le _, rfl, AUpto.zero X, Below.refl _ _⟩
  case round =>
    obtain ⟨k, hk, rfl, hu, hbr⟩ := hrel
    by_cases hlt : k < n
    · obtain ⟨a, ha⟩ : ∃ a, X[k]? = some a := ⟨X[k]'(by have := hl.out; omega), List.getElem?_eq_getElem _⟩
      obtain ⟨g, off, A', n', c', rfl, hg, hc0, hc1, hn', hm', hf⟩ := (HX.out.below hbr.out).at' ha
      have hsm := HS.out a (List.mem_of_getElem? ha)
      have Hsm := hide hsm
      clear hsm
      have hsz := hbr.out.size
      have HF : Hid (Strs wr w.heap.size A' n' a.2) := hf.strs
      have hz0 : ∀ z : Later w.heap.size wr, z.it.cell? ⟨g, off + k * 2, none⟩ = some (.string a.1) := fun z => (z.cell hg).trans hc0
      have hz1 : ∀ z : Later w.heap.size wr, z.it.cell? ⟨g, off + k * 2 + 1, none⟩ = some (.slice A' n' c') := fun z => (z.cell hg).trans hc1
      clear hf hc0 hc1
      cases h1 : nvB a.1
      · have H : Hid (asB X = false) := asB_bad ha (accB_1 h1)
        have H1 := hide h1
        clear ha h1
        go_wp2_with fail
        refine wp_region_later (B := w.heap.size) (by kernel_rfl) (by kernel_rfl) ?_
        repeat (go_big_quiet_step ((first | (go_at_call 102; exact Later.NV _ H1.out Hsm.out.1))))
        refine wpQuiet_nil ?_
        intro _ hw'
        obtain ⟨⟨w5, hb5⟩, hw''⟩ := hw'
        subst hw''
        have Hb5 := hide hb5
        clear hb5
        go_wp2_with fail
        go_ret
        exact ⟨ret_bool H.out.symm, hbr.out.trans Hb5.out⟩
      have H1 := hide h1
      cases h2 : nsB a.2
      · have H : Hid (asB X = false) := asB_bad ha (accB_2 h2)
        have H2 := hide h2
        clear ha h1 h2
        go_wp2_with fail
        refine wp_region_later (B := w.heap.size) (by kernel_rfl) (by kernel_rfl) ?_
        repeat (go_big_quiet_step ((first | (go_at_call 102; exact Later.NV _ H1.out Hsm.out.1) | (go_at_call 88; exact Later.NsV _ A' n' c' a.2 H2.out HF.out hsz Hsm.out.2 hm'))))
        refine wpQuiet_nil ?_
        intro _ hw'
        obtain ⟨⟨w5, hb5⟩, hw''⟩ := hw'
        subst hw''
        have Hb5 := hide hb5
        clear hb5
        go_wp2_with fail
        go_ret
        exact ⟨ret_bool H.out.symm, hbr.out.trans Hb5.out⟩
      have H2 := hide h2
      cases h3 : memB a.2 a.1
      rotate_left
      · have H : Hid (asB X = false) := asB_bad ha (accB_3 h3)
        obtain ⟨q, hq⟩ := atI_t h3
        have H3 := hide hq
        clear ha h1 h2 h3 hq
        go_wp2_with fail
        refine wp_region_later (B := w.heap.size) (by kernel_rfl) (by kernel_rfl) ?_
        repeat (go_big_quiet_step ((first | (go_at_call 102; exact Later.NV _ H1.out Hsm.out.1) | (go_at_call 88; exact Later.NsV _ A' n' c' a.2 H2.out HF.out hsz Hsm.out.2 hm') | (go_at_call 103; exact Later.at1 _ A' n' c' a.2 a.1 H3.out HF.out hsz hm'))))
        refine wpQuiet_nil ?_
        intro _ hw'
        obtain ⟨⟨w5, hb5⟩, hw''⟩ := hw'
        subst hw''
        have Hb5 := hide hb5
        clear hb5
        go_wp2_with fail
        go_ret
        exact ⟨ret_bool H.out.symm, hbr.out.trans Hb5.out⟩
      have hv := accB_t h1 h2 h3
      have H3 := hide (atI_f h3)
      clear h1 h2 h3
      rcases k with _ | k
      · have H : Hid (AUpto X 1) := AUpto.one ha hv
        clear ha hv
        rw [Nat.zero_mul, Nat.add_zero] at hz0 hz1
        go_wp2_with fail
        refine wp_region_later (B := w.heap.size) (by kernel_rfl) (by kernel_rfl) ?_
        repeat (go_big_quiet_step ((first | (go_at_call 102; exact Later.NV _ H1.out Hsm.out.1) | (go_at_call 88; exact Later.NsV _ A' n' c' a.2 H2.out HF.out hsz Hsm.out.2 hm') | (go_at_call 103; exact Later.at1 _ A' n' c' a.2 a.1 H3.out HF.out hsz hm'))))
        refine wpQuiet_nil ?_
        intro _ hw'
        obtain ⟨⟨w5, hb5⟩, hw''⟩ := hw'
        subst hw''
        have Hb5 := hide hb5
        clear hb5
        go_wp2_with fail
        go_roundw
        case rel => exact ⟨1, by omega, by go_num, H, hbr.out.trans Hb5.out⟩
        case measure => simp [intOf]; omega
      · obtain ⟨r, hr⟩ : ∃ r, X[k]? = some r := ⟨X[k]'(by have := hl.out; omega), List.getElem?_eq_getElem _⟩
        obtain ⟨g', off', A2, n2, c2, e1, _, hr0, _⟩ := (HX.out.below hbr.out).at' hr
        injection e1 with e1
        injection e1 with e1 e2
        subst e1 e2
        have hz2 : ∀ z : Later w.heap.size wr, z.it.cell? ⟨g, off + k * 2, none⟩ = some (.string r.1) := fun z => (z.cell hg).trans hr0
        have hk1 : (k : Int) + 1 < (n : Int) := by omega
        cases hrs : blt r.1 a.1
        · have H : Hid (asB X = false) := asB_turn hr ha hrs
          have hrs' : Op.bytesLess r.1.toList a.1.toList = false := hrs
          clear ha hr hv hrs hr0
          go_wp2_with fail
          refine wp_region_later (B := w.heap.size) (by kernel_rfl) (by kernel_rfl) ?_
          repeat (go_big_quiet_step ((first | (go_at_call 102; exact Later.NV _ H1.out Hsm.out.1) | (go_at_call 88; exact Later.NsV _ A' n' c' a.2 H2.out HF.out hsz Hsm.out.2 hm') | (go_at_call 103; exact Later.at1 _ A' n' c' a.2 a.1 H3.out HF.out hsz hm'))))
          refine wpQuiet_nil ?_
          intro _ hw'
          obtain ⟨⟨w5, hb5⟩, hw''⟩ := hw'
          subst hw''
          have Hb5 := hide hb5
          clear hb5
          go_wp2_with fail
          go_ret
          exact ⟨ret_bool H.out.symm, hbr.out.trans Hb5.out⟩
        · have H : Hid (AUpto X (k + 2)) := hu.out.more hr ha hv hrs
          have hrs' : Op.bytesLess r.1.toList a.1.toList = true := hrs
          clear ha hr hv hrs hr0
          go_wp2_with fail
          refine wp_region_later (B := w.heap.size) (by kernel_rfl) (by kernel_rfl) ?_
          repeat (go_big_quiet_step ((first | (go_at_call 102; exact Later.NV _ H1.out Hsm.out.1) | (go_at_call 88; exact Later.NsV _ A' n' c' a.2 H2.out HF.out hsz Hsm.out.2 hm') | (go_at_call 103; exact Later.at1 _ A' n' c' a.2 a.1 H3.out HF.out hsz hm'))))
          refine wpQuiet_nil ?_
          intro _ hw'
          obtain ⟨⟨w5, hb5⟩, hw''⟩ := hw'
          subst hw''
          have Hb5 := hide hb5
          clear hb5
          go_wp2_with fail
          go_roundw
          case rel => exact ⟨k + 2, by omega, by go_num, H, hbr.out.trans Hb5.out⟩
          case measure => simp [intOf]; omega
    · have H : Hid (asB X = decide ((n : Int) ≤ 6)) := by
        have h1 := hu.out
        have h2 := hl.out
        rw [show k = n by omega, ← h2] at h1
        by_cases h6 : X.length ≤ 6
        · exact (h1.all h6).trans (by simp; omega)
        · exact (asB_len (by omega)).trans (by simp; omega)
      go_wp2_with fail
      go_ret
      exact ⟨ret_bool H.out.symm, hbr.out⟩

set_option maxHeartbeats 1000000 in
/-- l2At: the first account with a name. -/
theorem s_l2At (A : Option Addr) (n c : Nat) (X : List Acc) (s : ByteArray) (w : World) (hX : Accs w w.heap.size A n X) (hn : n ≤ maxLen) :
    Calls Try.prog 65 #[.slice A n c, .string s] w fun e w' => e = .returned (.int .i64 (atI (nms X) s)) ∧ w = w' := by
  unfold maxLen at hn
  have hl := hide hX.1
  have HX := hide hX
  clear hX
  go_enter Try.func65, Try.ntmps65
  go_wp2_with fail
  go_loop [5] (fun i => ∃ k : Nat, k ≤ n ∧ i = .int .i64 k ∧ Hid (∀ j, j < k → (nms X)[j]? ≠ some s)) (fun i => n - (intOf i).toNat)
  case atStart => exact ⟨0, Nat.zero_le _, rfl, fun j h => absurd h (by omega)⟩
  case round =>
    obtain ⟨k, hk, rfl, hu⟩ := hrel
    by_cases hlt : k < n
    · obtain ⟨a, ha⟩ : ∃ a, X[k]? = some a := ⟨X[k]'(by have := hl.out; omega), List.getElem?_eq_getElem _⟩
      obtain ⟨g, off, A', n', c', rfl, hg, hc0, hc1, hn', hm', hf⟩ := HX.out.at' ha
      have ht := nms_at ha
      clear hf hc1
      by_cases e : a.1 = s
      · subst e
        have H : Hid (atI (nms X) a.1 = k) := atI_of ht hu.out
        clear ht ha
        go_wp2_with fail
        go_ret
        exact ⟨ret_int H.out.symm, rfl⟩
      · have hne := beq_of_ne e
        have H : Hid (∀ j, j < k + 1 → (nms X)[j]? ≠ some s) := fun j hj hs => by
          by_cases ej : j = k
          · subst ej; rw [ht] at hs; cases hs; exact e rfl
          · exact hu.out j (by omega) hs
        clear ht ha e
        go_wp2_with fail
        go_round
        case rel => exact ⟨k + 1, by omega, by go_num, H⟩
        case measure => simp [intOf]; omega
    · have H : Hid (atI (nms X) s = -1) := atI_no (not_mem_of fun j hj => hu.out j (by rw [nms_len] at hj; have := hl.out; omega))
      go_wp2_with fail
      go_ret
      exact ⟨ret_int H.out.symm, rfl⟩
end Go.Proofs.Ytimpmlmkhjeajaa

/- newAccountBook, slices.Clone, FollowersOf of both. -/
set_option linter.unusedVariables false
set_option linter.unusedSimpArgs false
namespace Go.Proofs.Ytimpmlmkhjeajaa
open Go.RowKit

theorem run_makeMapN {P : Program} {t kt et : TypeId} (ht : P.underlying t = some (.map kt et)) (k : Nat) (w : World) : (Instr.makeMap t (some (.int .i64 (k : Int)))).run P w = .ok (.map (some w.heap.size)) (w.alloc (.map #[] 0)) := by
  simp [Instr.makeMap, run_underlying ht, asInt, asIntOf]

theorem nms_take (X : List Acc) (k : Nat) : nms (X.take k) = (nms X).take k := by unfold nms; rw [List.map_take]
theorem nms_new {X : List Acc} (h : asB X = true) {k : Nat} {a : Acc} (ha : X[k]? = some a) : a.1 ∉ nms (X.take k) := by
  rw [nms_take]
  intro hm
  obtain ⟨j, hj, e⟩ := List.mem_iff_getElem.1 hm
  rw [List.length_take] at hj
  rw [List.getElem_take] at e
  have h1 : (nms X)[j]? = some a.1 := by rw [List.getElem?_eq_getElem (by omega), e]
  have := (asB_asc h).uniq h1 (nms_at ha)
  omega
theorem nil_one : (Value.slice none 0 0).oneCell' = true := rfl

/-- The book: accounts are valid, and there is a map of them; or they are not. -/
def BookR (w : World) (X : List Acc) (e : Ending) (w' : World) : Prop :=
  (asB X = false ∧ e = .returned (.tuple #[.map none, .bool false]) ∧ Below w.heap.size w w') ∨
  (asB X = true ∧ ∃ b, e = .returned (.tuple #[.map (some b), .bool true]) ∧ w.heap.size ≤ b ∧ Book w' (· < w.heap.size) b 6 X ∧ Below w.heap.size w w')

set_option maxHeartbeats 1000000 in
theorem i_book (A : Option Addr) (n c : Nat) (X : List Acc) (w : World) (hX : Accs w w.heap.size A n X) (hS : ASmall X) (hn : n ≤ maxLen) :
    Calls Try.prog 61 #[.slice A n c] w fun e w' => BookR w X e w' := by
  have HX := hide hX
  have HS := hide hS
  have Hn := hide hn
  have hl := hide hX.1
  clear hX hS hn
  go_enter Try.func61, Try.ntmps61
  go_wp2_with fail
  refine (i_As A n c X _ HX.out HS.out Hn.out).mono ?_
  rintro e w1 ⟨rfl, hb1⟩
  have Hb1 := hide hb1
  clear hb1
  cases hv : asB X
  · have Hv := hide hv
    clear hv
    go_wp2_with fail
    go_ret2
    exact .inl ⟨Hv.out, rfl, Hb1.out⟩
  have Hv := hide hv
  have hn6 : n ≤ 6 := by have := asB_6 hv; have := hl.out; omega
  clear hv
  have hmm := run_makeMapN Try.underlying83
  have Hst : Hid (Book (w1.alloc (.map #[] 0)) (· < w.heap.size) w1.heap.size 0 []) := Book.made w1 _
  have Hbs : Hid (Below w.heap.size w (w1.alloc (.map #[] 0))) := Hb1.out.alloc Hb1.out.size _
  have hsz1 := Hb1.out.size
  go_wp2_with fail
  go_loopw [6, 15] (fun _ i wr => ∃ k : Nat, k ≤ n ∧ i = .int .i64 k ∧ Hid (Book wr (· < w.heap.size) w1.heap.size k (X.take k)) ∧ Hid (Below w.heap.size w wr)) (fun _ i _ => n - (intOf i).toNat)
  case atStart => exact ⟨0, Nat.zero_le _, rfl, by rw [List.take_zero]; exact Hst, Hbs⟩
  case round =>
    obtain ⟨k, hk, rfl, hbk, hbr⟩ := hrel
    by_cases hlt : k < n
    · obtain ⟨a, ha⟩ : ∃ a, X[k]? = some a := ⟨X[k]'(by have := hl.out; omega), List.getElem?_eq_getElem _⟩
      obtain ⟨g, off, A', n', c', rfl, hg, hc0, hc1, hn', hm', hf⟩ := (HX.out.below hbr.out).at' ha
      have hsm := (HS.out a (List.mem_of_getElem? ha)).1
      have Hsm := hide hsm
      have hsz := hbr.out.size
      have hnew := hide (nms_new Hv.out ha)
      have htk : Hid (X.take (k + 1) = X.take k ++ [(a.1, a.2)]) := by
        obtain ⟨h, e⟩ := List.getElem?_eq_some_iff.1 ha
        show _ = _
        rw [List.take_succ_eq_append_getElem h, e]
      have hbk' : Hid (Book (wr.alloc (.cells #[Value.string a.1, Value.slice A' n' c'] 79)) (· < w.heap.size) w1.heap.size k (X.take k)) :=
        hbk.out.keep (World.grownBy_alloc wr _ none) (by simp) (fun q hq => ((Below.refl w.heap.size wr).alloc hsz _).cell hq)
      obtain ⟨D, d1, d2, d3, d4⟩ := hbk'.out
      have D1 := hide d1
      have D2 := hide d2
      have D3 := hide d3
      have D4 := hide d4
      have Hf := hide hf
      have Hba : Hid (Below w.heap.size w (wr.alloc (.cells #[Value.string a.1, Value.slice A' n' c'] 79))) := hbr.out.alloc hsz _
      have hb1w := hbk.out.lt
      have hkm : k < maxLen := by unfold maxLen; omega
      clear hf hsm ha d1 d2 d3 d4 hbk hbk'
      go_wp2_with (
        (at_mapUpdate
         refine wpList_mapUpdate_own _ rfl _ _ _ 83 rfl 9 86 keyT Try.underlying83 Rv w1.heap.size k D rfl D1.out hkm (.string a.1) (.slice A' n' c') (kl a.1) rfl rfl (keyOf_s Hsm.out) (.held (.slice A' n' c')) [] rfl ?_
         intro w5 hown5 hgrow5
         have Hown5 := hide hown5
         have Hgrow5 := hide hgrow5
         clear hown5 hgrow5))
      have hkeep : ∀ q : Addr, q.block < w.heap.size → w5.cell? q = (wr.alloc (.cells #[Value.string a.1, Value.slice A' n' c'] 79)).cell? q := fun q hq =>
        World.cell?_of_block (Hgrow5.out.block _ (by simp; omega) (fun e => by injection e; omega))
      have HB5 : Hid (Book w5 (· < w.heap.size) w1.heap.size (k + 1) (X.take (k + 1))) := by
        show Book _ _ _ _ _
        rw [htk.out]
        exact Book.snoc D2.out D3.out D4.out hnew.out ((Hf.out.keep fun q hq => (((Below.refl w.heap.size wr).alloc hsz _).cell hq)).keep hkeep) hkeep Hown5.out
      have HW5 : Hid (Below w.heap.size w w5) := Hba.out.grown Hgrow5.out (by simp; omega) (fun q hq => by injection hq; omega)
      clear hkeep
      go_roundw
      case rel => exact ⟨k + 1, by omega, by go_num, HB5, HW5⟩
      case measure => simp [intOf]; omega
    · have HE : Hid (X.take k = X) := List.take_of_length_le (by have := hl.out; omega)
      go_wp2_with fail
      go_ret2
      refine .inr ⟨Hv.out, _, rfl, hsz1, ?_, hbr.out⟩
      have h := hbk.out
      rw [HE.out] at h
      obtain ⟨D, d1, d2⟩ := h
      exact ⟨D, d1.mono (by omega), d2⟩
end Go.Proofs.Ytimpmlmkhjeajaa

/- slices.Clone, FollowersOf of both. -/
set_option linter.unusedVariables false
set_option linter.unusedSimpArgs false
namespace Go.Proofs.Ytimpmlmkhjeajaa
open Go.RowKit

theorem Fls.rd {w : World} {B n c : Nat} {A : Option Addr} {F : List ByteArray} (h : Fls w (· < B) (.slice A n c) F) : Rd w B 1 A n (F.map Value.string) := Rd.of_strs h.strs

set_option maxHeartbeats 1000000 in
theorem clone_any (A : Option Addr) (n c : Nat) (F : List ByteArray) (w : World) (hF : Fls w (· < w.heap.size) (.slice A n c) F) (hn2 : n ≤ 1000000) :
    Calls Try.prog 63 #[.slice A n c] w fun e w' => Own1 w F e w' := by
  obtain ⟨i0, hi0, hz0, hz1, hz2⟩ := info_parts str_info
  have hU := Try.underlying86
  have q24 : ∀ (w : World) (a : Option Addr) (n c n' c' : Nat), (binOp .eql 86 (.slice a n c) (.slice none n' c')).run Try.prog w = .ok (.bool a.isNone) w := fun w a n c n' c' => Lib.run_eql_slice_nil w _ _ a n c n' c' hU
  have HF := hide hF
  have b1 : 0 + n ≤ maxLen := by unfold maxLen; omega
  have b2 : (0 + n) * 16 ≤ 140737488355328 := by omega
  rcases A with _ | ad
  · have hl := hF.strs
    have h0 : n = 0 := by
      rcases Nat.eq_zero_or_pos n with h | h
      · exact h
      · obtain ⟨_, _, e, _⟩ := hl.2 h; cases e
    have hFe : Hid (F = []) := List.eq_nil_of_length_eq_zero (by have := hl.1; omega)
    clear hl hF h0 b1 b2
    go_enter Try.func63, Try.ntmps63
    go_wp2_with fail
    go_ret
    exact ⟨_, rfl, by rw [hFe.out]; exact OwnL.nil _ _, Below.refl _ _⟩
  · have own0 := hide (World.ownsRow_lit (size := 1) (e := 9) (base := w.heap.size) w #[] 0 (Nat.le_refl _) (Nat.zero_le _) rfl)
    have src := hide (hF.rd.alloc (Nat.le_refl _) (.cells #[] 9))
    clear hF
    go_enter Try.func63, Try.ntmps63
    go_wp2_with (
      (at_builtin
       refine wpList_append_rd _ rfl (.tmp 5) (.tmp 6) _ rfl w.heap.size 9 i0 _ 1 16 hU hi0 hz0 hz1 hz2 rfl (by omega) _ 0 [] rfl own0.out w.heap.size (some ad) n _ (F.map Value.string) rfl src.out (one_strs _) b1 b2 (by simp) ?_
       intro v4 w4 own4 gr4 at4
       have hb4 : Below w.heap.size w w4 := Below.own ((Below.refl _ _).alloc (Nat.le_refl _) _) gr4 own0.out (Nat.le_refl _) (by simp)
       clear gr4 at4))
    go_ret
    exact ⟨v4, rfl, OwnL.mk own4 (by rw [List.nil_append]), hb4⟩

theorem fol_len {X : List Acc} (h : asB X = true) (s : ByteArray) : (fol X s).length ≤ 10 := by
  by_cases hs : s ∈ nms X
  · exact nsB_le (fol_valid h hs).1
  · rw [fol_none hs]; exact Nat.zero_le _

set_option maxHeartbeats 1000000 in
theorem i_fof (A : Option Addr) (n c : Nat) (X : List Acc) (s : ByteArray) (w : World) (hX : Accs w w.heap.size A n X) (hS : ASmall X) (hn : n ≤ maxLen) (hs : s.size ≤ maxLen) :
    Calls Try.prog 25 #[.slice A n c, .string s] w fun e w' => Own1 w (folM X s) e w' := by
  have HX := hide hX
  have HS := hide hS
  have Hn := hide hn
  have Hs := hide hs
  clear hX hS hn hs
  go_enter Try.func25, Try.ntmps25
  go_wp2_with fail
  refine (i_book A n c X _ HX.out HS.out Hn.out).mono ?_
  rintro e w1 (⟨hv, rfl, hb1⟩ | ⟨hv, b, rfl, hb, hbk, hb1⟩)
  · have H := hide (folM_f (s := s) hv)
    clear hv
    go_wp2_with fail
    go_ret
    exact ⟨_, rfl, by rw [H.out]; exact OwnL.nil _ _, hb1⟩
  · have H := hide (folM_t (s := s) hv)
    have hlen := hide (fol_len hv s)
    obtain ⟨v, hrun, hf⟩ := hbk.look Hs.out
    obtain ⟨A', n', c', e, _⟩ := id hf
    subst e
    have hn' : n' ≤ 1000000 := by have h1 := hf.strs.1; have h2 := hlen.out; omega
    have Hf := hide (hf.more (ok' := (· < w1.heap.size)) (fun g hg => Nat.lt_of_lt_of_le hg hb1.size))
    have Hb1 := hide hb1
    clear hv hf hbk hb1
    go_wp2_with fail
    refine (clone_any A' n' c' _ _ Hf.out hn').mono ?_
    rintro e w2 ⟨v2, rfl, hown, hb2⟩
    go_wp2_with fail
    go_ret
    refine ⟨v2, rfl, ?_, Hb1.out.trans (hb2.mono Hb1.out.size)⟩
    rw [H.out]
    obtain ⟨A2, n2, c2, rfl, h⟩ := hown
    exact ⟨A2, n2, c2, rfl, own_base h Hb1.out.size⟩

set_option maxRecDepth 100000 in
set_option maxHeartbeats 1000000 in
theorem s_fof (A : Option Addr) (n c : Nat) (X : List Acc) (s : ByteArray) (w : World) (hX : Accs w w.heap.size A n X) (hS : ASmall X) (hn : n ≤ maxLen) :
    Calls Try.prog 67 #[.slice A n c, .string s] w fun e w' => Own1 w (folM X s) e w' := by
  obtain ⟨i0, hi0, hz0, hz1, hz2⟩ := info_parts str_info
  have hU := Try.underlying26
  have HX := hide hX
  have HS := hide hS
  have Hn := hide hn
  have hl := hide hX.1
  clear hX hS hn
  go_enter Try.func67, Try.ntmps67
  go_wp2_with fail
  refine (s_l2At A n c X s _ HX.out Hn.out).mono ?_
  rintro e w' ⟨rfl, rfl⟩
  generalize hq : atI (nms X) s = q
  have Hq := hide hq
  clear hq
  go_wp2_with fail
  refine (s_As A n c X _ HX.out HS.out Hn.out).mono ?_
  rintro e w1 ⟨rfl, hb1⟩
  have Hb1 := hide hb1
  have emp : ∀ w1 : World, Below w.heap.size w w1 → Own1 w [] (.returned (.slice (some ⟨w1.heap.size, 0, none⟩) 0 0)) (w1.alloc (.cells #[] 9)) := fun w1 hb =>
    ⟨_, rfl, ⟨_, _, _, rfl, World.ownsRow_lit w1 #[] 0 hb.size (Nat.zero_le _) rfl⟩, hb.alloc hb.size _⟩
  have Emp := hide emp
  clear hb1 emp
  cases hv : asB X
  · have H := hide (folM_f (s := s) hv)
    clear hv
    go_wp2_with fail
    go_ret
    rw [H.out]; exact Emp.out _ Hb1.out
  have H := hide (folM_t (s := s) hv)
  cases hm : memB (nms X) s
  · have hq1 := Hq.out
    rw [atI_f hm] at hq1
    have H2 := hide (fol_none (X := X) (s := s) (fun h => by rw [memB_t h] at hm; cases hm))
    have hq2 : q < 0 := by omega
    clear hv hm hq1
    go_wp2_with fail
    go_ret
    rw [H.out, H2.out]; exact Emp.out _ Hb1.out
  · obtain ⟨k, F, hk⟩ := nms_mem (memB_iff.1 hm)
    have hk2 := nms_at hk
    have hq1 : atI (nms X) s = k := atI_of hk2 (fun j hj hs => by have := (asB_asc hv).uniq hs hk2; omega)
    rw [Hq.out] at hq1
    subst hq1
    have H2 : Hid (fol X s = F) := fol_at (a := (s, F)) (asB_asc hv) hk
    obtain ⟨g, off, A', n', c', rfl, hg, hc0, hc1, hn', hm', hf⟩ := (HX.out.below Hb1.out).at' hk
    have hkn : k < n := by have h1 := hl.out; have := (List.getElem?_eq_some_iff.1 hk).1; omega
    have hlen := fol_len hv s
    rw [H2.out] at hlen
    have hn10 : n' ≤ 10 := by have h1 : F.length = n' := hf.strs.1; omega
    have hn7 : n ≤ 6 := by have := asB_6 hv; have := hl.out; omega
    have hs1 := Hb1.out.size
    have hgw : g < w1.heap.size := Nat.lt_of_lt_of_le hg hs1
    have own0 := hide (World.ownsRow_lit (size := 1) (e := 9) (base := w.heap.size) w1 #[] 0 Hb1.out.size (Nat.zero_le _) rfl)
    have src := hide (hf.rd.alloc Hb1.out.size (.cells #[] 9))
    have b1 : 0 + n' ≤ maxLen := by unfold maxLen; omega
    have b2 : (0 + n') * 16 ≤ 140737488355328 := by omega
    clear hv hm hk hk2 hlen hf hc0
    go_wp2_with (
      (at_builtin
       refine wpList_append_rd _ rfl (.tmp 17) (.tmp 22) _ rfl w.heap.size 9 i0 _ 1 16 hU hi0 hz0 hz1 hz2 rfl (by omega) _ 0 [] rfl own0.out w.heap.size A' n' _ (F.map Value.string) rfl src.out (one_strs _) b1 b2 (by simp; omega) ?_
       intro v4 w4 own4 gr4 at4
       have hb4 : Below w.heap.size w w4 := Below.own (Hb1.out.alloc Hb1.out.size _) gr4 own0.out (Nat.le_refl _) (by simp; omega)
       clear gr4 at4))
    go_ret
    rw [H.out, H2.out]
    exact ⟨v4, rfl, OwnL.mk own4 (by rw [List.nil_append]), hb4⟩
end Go.Proofs.Ytimpmlmkhjeajaa
