/- Texts joined: Ib, Hp, Hm, Hu, Hd, Hq, Hr, Ht, Hx, Bpl. -/
import Derived.Test.YtimpmlmkhjeajaaZc
import Derived.Test.YtimpmlmkhjeajaaZb
import Derived.Outline
import Derived.Test.YtimpmlmkhjeajaaZa
import Derived.WalkKit
import Derived.Deep.DeepMust
import Derived.Deep.RegionLaw
import Derived.Test.YtimpmlmkhjeajaaZh
import Derived.Deep.LoopGhost
import Derived.Lib.Strings
import Derived.Lib.Slices
import Derived.Lib.Walk
import Derived.Lib.Bytealg

/- postIdValid, boxIdsValid, Box.valid, BoxesValid of the program. -/
set_option linter.unusedVariables false
set_option linter.unusedSimpArgs false
namespace Go.Proofs.Ytimpmlmkhjeajaa
open Go.RowKit Go.BigFrame

theorem p_id (i : Int) (w : World) :
    Calls Try.prog 62 #[.int .i64 i] w fun e w' => e = .returned (.bool (inR i)) ∧ w = w' := by
  by_cases h1 : 1 ≤ i
  · have H : Hid (inR i = decide (i ≤ 999)) := by show _ = _; unfold inR; simp [h1]
    go_enter Try.func62, Try.ntmps62
    go_wp2_with fail
    go_ret
    exact ⟨ret_bool H.out.symm, rfl⟩
  · have H : Hid (inR i = false) := inR_f (by omega)
    go_enter Try.func62, Try.ntmps62
    go_wp2_with fail
    go_ret
    exact ⟨ret_bool H.out.symm, rfl⟩
theorem p_idt {i : Int} {b : Bool} (h : inR i = b) (w : World) :
    Calls Try.prog 62 #[.int .i64 i] w fun e w' => e = .returned (.bool b) ∧ w = w' := by
  subst h; exact p_id i w
theorem p_id' {B : Nat} {W : World} (z : Later B W) {i : Int} {b : Bool} (h : inR i = b) :
    Calls Try.prog 62 #[.int .i64 i] z.it fun e w'' => e = .returned (.bool b) ∧ ∃ z' : Later B W, w'' = z'.it := by
  subst h; exact Later.same (p_id i _)

set_option maxHeartbeats 1000000 in
theorem i_ids (A : Option Addr) (n c : Nat) (L : List Int) (w : World) (hX : Ints w w.heap.size A n L) (hn : n ≤ maxLen) :
    Calls Try.prog 80 #[.slice A n c] w fun e w' => e = .returned (.bool (idsB L)) ∧ Below w.heap.size w w' := by
  unfold maxLen at hn
  have hl := hide hX.1
  by_cases h6 : 6 < n
  · have H : Hid (idsB L = false) := idsB_len (by have := hl.out; omega)
    clear hX
    go_enter Try.func80, Try.ntmps80
    go_wp2_with fail
    go_ret
    exact ⟨ret_bool H.out.symm, Below.refl _ _⟩
  have HX := hide hX
  clear hX
  go_enter Try.func80, Try.ntmps80
  go_wp2_with fail
  go_loopw [3, 4, 10] (fun _ _ i wr => ∃ k : Nat, k ≤ n ∧ i = .int .i64 k ∧ Hid (IUpto L k) ∧ Hid (Below w.heap.size w wr)) (fun _ _ i _ => n - (intOf i).toNat)
  case atStart => exact ⟨0, Nat.zero_le _, rfl, IUpto.zero L, Below.refl _ _⟩
  case round =>
    obtain ⟨k, hk, rfl, hu, hbr⟩ := hrel
    by_cases hlt : k < n
    · obtain ⟨a, ha⟩ : ∃ a, L[k]? = some a := ⟨L[k]'(by have := hl.out; omega), List.getElem?_eq_getElem _⟩
      obtain ⟨g, off, rfl, hg, hc0⟩ := (HX.out.below hbr.out).at' ha
      have hsz := hbr.out.size
      cases h1 : inR a
      · have H : Hid (idsB L = false) := idsB_bad ha h1
        have H1 := hide h1
        clear ha h1
        go_wp2_with fail
        refine (p_idt H1.out _).mono ?_
        rintro e w' ⟨rfl, rfl⟩
        go_wp2_with fail
        go_ret
        exact ⟨ret_bool H.out.symm, hbr.out⟩
      have H1 := hide h1
      rcases k with _ | k
      · have H : Hid (IUpto L 1) := IUpto.one ha h1
        clear ha h1
        rw [Nat.add_zero] at hc0
        go_wp2_with fail
        refine (p_idt H1.out _).mono ?_
        rintro e w' ⟨rfl, rfl⟩
        go_wp2_with fail
        go_roundw
        case rel => exact ⟨1, by omega, by go_num, H, hbr.out⟩
        case measure => simp [intOf]; omega
      · obtain ⟨r, hr⟩ : ∃ r, L[k]? = some r := ⟨L[k]'(by have := hl.out; omega), List.getElem?_eq_getElem _⟩
        obtain ⟨g', off', e1, _, hr0⟩ := (HX.out.below hbr.out).at' hr
        injection e1 with e1
        injection e1 with e1 e2
        subst e1 e2
        have hz2 : wr.cell? ⟨g, off + k, none⟩ = some (.int .i64 r) := hr0
        have hk1 : (k : Int) + 1 < (n : Int) := by omega
        by_cases hrs : r ≤ a
        · have H : Hid (idsB L = false) := idsB_turn hr ha hrs
          clear ha hr h1 hr0
          go_wp2_with fail
          refine (p_idt H1.out _).mono ?_
          rintro e w' ⟨rfl, rfl⟩
          go_wp2_with fail
          go_ret
          exact ⟨ret_bool H.out.symm, hbr.out⟩
        · have H : Hid (IUpto L (k + 2)) := hu.out.more hr ha h1 (by omega)
          clear ha hr h1 hr0
          go_wp2_with fail
          refine (p_idt H1.out _).mono ?_
          rintro e w' ⟨rfl, rfl⟩
          go_wp2_with fail
          go_roundw
          case rel => exact ⟨k + 2, by omega, by go_num, H, hbr.out⟩
          case measure => simp [intOf]; omega
    · have H : Hid (idsB L = true) := IUpto.all (by have h1 := hu.out; have h2 := hl.out; rw [h2]; rw [show n = k by omega]; exact h1) (by have := hl.out; omega)
      go_wp2_with fail
      go_ret
      exact ⟨ret_bool H.out.symm, hbr.out⟩

set_option maxHeartbeats 1000000 in
theorem b_valid (s : ByteArray) (A : Option Addr) (n c : Nat) (F : List Int) (w : World) (hF : Ints w w.heap.size A n F) (hn : n ≤ maxLen) (hs : s.size ≤ maxLen) :
    Calls Try.prog 87 #[.agg #[.string s, .slice A n c]] w fun e w' => e = .returned (.bool (bxB (s, F))) ∧ Below w.heap.size w w' := by
  have hl := hide hF.1
  have HF := hide hF
  have HN := hide hn
  have Hs := hide hs
  clear hF hs
  unfold maxLen at hn
  have Ha : ∀ T, Hid (Below w.heap.size w (w.alloc (.cells #[.string s, .slice A n c] T))) := fun T => (Below.refl _ _).alloc (Nat.le_refl _) _
  have HF' : ∀ T, Hid (Ints (w.alloc (.cells #[.string s, .slice A n c] T)) (w.alloc (.cells #[.string s, .slice A n c] T)).heap.size A n F) := fun T => hide (HF.out.on (Ha T).out)
  have Ha := hide Ha
  go_enter Try.func87, Try.ntmps87
  go_wp2_with fail
  refine (i_NameValid s _ Hs.out).mono ?_
  rintro e w' ⟨rfl, rfl⟩
  cases h1 : nvB s
  · have H : Hid (bxB (s, F) = false) := bxB_1 h1
    go_wp2_with fail
    go_ret
    exact ⟨ret_bool H.out.symm, (Ha.out _).out⟩
  by_cases h3 : 0 < n
  · obtain ⟨b, hb⟩ : ∃ b, idsB F = b := ⟨_, rfl⟩
    have H : Hid (bxB (s, F) = b) := by
      show _ = _
      cases b
      · exact bxB_2 hb
      · exact bxB_t h1 hb (fun e => by have e2 : F = [] := e; have h := hl.out; rw [e2] at h; have h2 : 0 = n := h; omega)
    have Hb := hide hb
    clear h1 hb
    go_wp2_with fail
    refine (i_ids A n c F _ (HF' _).out HN.out).mono ?_
    rintro e w' ⟨rfl, hb1⟩
    rw [Hb.out]
    have Hb1 := hide hb1
    clear hb1
    go_wp2_with fail
    go_ret
    exact ⟨ret_bool H.out.symm, (Ha.out _).out.trans (Hb1.out.mono (by simp))⟩
  · have H : Hid (bxB (s, F) = false) := bxB_3 (List.eq_nil_of_length_eq_zero (by show F.length = 0; have := hl.out; omega))
    clear h1
    go_wp2_with fail
    go_ret
    exact ⟨ret_bool H.out.symm, (Ha.out _).out⟩

theorem b_valid' {B : Nat} {W : World} (z : Later B W) (s : ByteArray) (A : Option Addr) (n c : Nat) (F : List Int) (hF : Ints W B A n F) (hB : B ≤ W.heap.size) (hn : n ≤ maxLen) (hs : s.size ≤ maxLen) (b : Bool) (hb : bxB (s, F) = b) :
    Calls Try.prog 87 #[.agg #[.string s, .slice A n c]] z.it fun e w'' => e = .returned (.bool b) ∧ ∃ z' : Later B W, w'' = z'.it := by
  subst hb
  have hsz := z.below.size
  exact Later.call ((b_valid s A n c F z.it ((hF.below z.below).more (by omega)) hn hs).mono fun e w' ⟨h1, h2⟩ => ⟨h1, h2.mono (by omega)⟩)

set_option maxHeartbeats 2000000 in
theorem i_Bs (A : Option Addr) (n c : Nat) (X : List Bx) (w : World) (hX : Bxs w w.heap.size A n X) (hS : BSmall X) (hn : n ≤ maxLen) :
    Calls Try.prog 36 #[.slice A n c] w fun e w' => e = .returned (.bool (bxsB X)) ∧ Below w.heap.size w w' := by
  unfold maxLen at hn
  have hl := hide hX.1
  by_cases h6 : 10 < n
  · have H : Hid (bxsB X = false) := bxsB_len (by have := hl.out; omega)
    clear hX hS
    go_enter Try.func36, Try.ntmps36
    go_wp2_with fail
    go_ret
    exact ⟨ret_bool H.out.symm, Below.refl _ _⟩
  have HX := hide hX
  have HS := hide hS
  clear hX hS
  go_enter Try.func36, Try.ntmps36
  go_wp2_with fail
  go_loopw [3, 4, 10] (fun _ _ i wr => ∃ k : Nat, k ≤ n ∧ i = .int .i64 k ∧ Hid (BUpto X k) ∧ Hid (Below w.heap.size w wr)) (fun _ _ i _ => n - (intOf i).toNat)
  case atStart => exact ⟨0, Nat.zero_le _, rfl, BUpto.zero X, Below.refl _ _⟩
  case round =>
    obtain ⟨k, hk, rfl, hu, hbr⟩ := hrel
    by_cases hlt : k < n
    · obtain ⟨a, ha⟩ : ∃ a, X[k]? = some a := ⟨X[k]'(by have := hl.out; omega), List.getElem?_eq_getElem _⟩
      obtain ⟨g, off, A', n', c', rfl, hg, hc0, hc1, hn', hm', hf⟩ := (HX.out.below hbr.out).at' ha
      have hsm := HS.out a (List.mem_of_getElem? ha)
      have hsz := hbr.out.size
      have HF' : Hid (Ints (wr.alloc (.cells #[Value.string a.1, Value.slice A' n' c'] 55)) (wr.heap.size + 1) A' n' a.2) := (hf.ints.below ((Below.refl _ _).alloc hsz _)).more (by omega)
      have HB : Hid (wr.heap.size + 1 ≤ (wr.alloc (.cells #[Value.string a.1, Value.slice A' n' c'] 55)).heap.size) := by simp [Hid]
      have Hba : Hid (Below w.heap.size w (wr.alloc (.cells #[Value.string a.1, Value.slice A' n' c'] 55))) := hbr.out.alloc hsz _
      have hz0 : ∀ z : Later (wr.heap.size + 1) (wr.alloc (.cells #[Value.string a.1, Value.slice A' n' c'] 55)), z.it.cell? ⟨wr.heap.size, 0, none⟩ = some (.string a.1) := fun z => (z.cell (by omega)).trans ((Blk.new _ _ _).cell 0)
      have hz1 : ∀ z : Later (wr.heap.size + 1) (wr.alloc (.cells #[Value.string a.1, Value.slice A' n' c'] 55)), z.it.cell? ⟨wr.heap.size, 1, none⟩ = some (.slice A' n' c') := fun z => (z.cell (by omega)).trans ((Blk.new _ _ _).cell 1)
      clear hf
      cases hv : bxB a
      · have H : Hid (bxsB X = false) := bxsB_bad ha hv
        have HV : Hid (bxB (a.1, a.2) = false) := hv
        clear ha hv
        go_wp2_with fail
        refine wp_region_later (B := (wr.heap.size + 1)) (by kernel_rfl) (by kernel_rfl) ?_
        repeat (go_big_quiet_step ((go_at_call 87; exact b_valid' _ a.1 A' n' c' a.2 HF'.out HB.out hm' hsm false HV.out)))
        refine wpQuiet_nil ?_
        intro _ hw'
        obtain ⟨⟨w5, hb5⟩, hw''⟩ := hw'
        subst hw''
        have Hb5 := hide hb5
        clear hb5
        go_wp2_with fail
        go_ret
        exact ⟨ret_bool H.out.symm, Hba.out.trans (Hb5.out.mono (by omega))⟩
      · have HV : Hid (bxB (a.1, a.2) = true) := hv
        rcases k with _ | k
        · have H : Hid (BUpto X 1) := BUpto.one ha hv
          clear ha hv
          rw [Nat.zero_mul, Nat.add_zero] at hc0 hc1
          go_wp2_with fail
          refine wp_region_later (B := (wr.heap.size + 1)) (by kernel_rfl) (by kernel_rfl) ?_
          repeat (go_big_quiet_step ((go_at_call 87; exact b_valid' _ a.1 A' n' c' a.2 HF'.out HB.out hm' hsm true HV.out)))
          refine wpQuiet_nil ?_
          intro _ hw'
          obtain ⟨⟨w5, hb5⟩, hw''⟩ := hw'
          subst hw''
          have Hb5 := hide hb5
          clear hb5
          go_wp2_with fail
          go_roundw
          case rel => exact ⟨1, by omega, by go_num, H, Hba.out.trans (Hb5.out.mono (by omega))⟩
          case measure => simp [intOf]; omega
        · obtain ⟨r, hr⟩ : ∃ r, X[k]? = some r := ⟨X[k]'(by have := hl.out; omega), List.getElem?_eq_getElem _⟩
          obtain ⟨g', off', A2, n2, c2, e1, _, hr0, _⟩ := (HX.out.below hbr.out).at' hr
          injection e1 with e1
          injection e1 with e1 e2
          subst e1 e2
          have hz2 : ∀ z : Later (wr.heap.size + 1) (wr.alloc (.cells #[Value.string a.1, Value.slice A' n' c'] 55)), z.it.cell? ⟨g, off + k * 2, none⟩ = some (.string r.1) := fun z => (z.cell (by omega)).trans ((World.cell?_alloc_old _ _ _ (by simp; omega)).trans hr0)
          have hk1 : (k : Int) + 1 < (n : Int) := by omega
          cases hrs : blt r.1 a.1
          · have H : Hid (bxsB X = false) := bxsB_turn hr ha hrs
            have hrs' : Op.bytesLess r.1.toList a.1.toList = false := hrs
            clear ha hr hv hrs hr0
            go_wp2_with fail
            refine wp_region_later (B := (wr.heap.size + 1)) (by kernel_rfl) (by kernel_rfl) ?_
            repeat (go_big_quiet_step ((go_at_call 87; exact b_valid' _ a.1 A' n' c' a.2 HF'.out HB.out hm' hsm true HV.out)))
            refine wpQuiet_nil ?_
            intro _ hw'
            obtain ⟨⟨w5, hb5⟩, hw''⟩ := hw'
            subst hw''
            have Hb5 := hide hb5
            clear hb5
            go_wp2_with fail
            go_ret
            exact ⟨ret_bool H.out.symm, Hba.out.trans (Hb5.out.mono (by omega))⟩
          · have H : Hid (BUpto X (k + 2)) := hu.out.more hr ha hv hrs
            have hrs' : Op.bytesLess r.1.toList a.1.toList = true := hrs
            clear ha hr hv hrs hr0
            go_wp2_with fail
            refine wp_region_later (B := (wr.heap.size + 1)) (by kernel_rfl) (by kernel_rfl) ?_
            repeat (go_big_quiet_step ((go_at_call 87; exact b_valid' _ a.1 A' n' c' a.2 HF'.out HB.out hm' hsm true HV.out)))
            refine wpQuiet_nil ?_
            intro _ hw'
            obtain ⟨⟨w5, hb5⟩, hw''⟩ := hw'
            subst hw''
            have Hb5 := hide hb5
            clear hb5
            go_wp2_with fail
            go_roundw
            case rel => exact ⟨k + 2, by omega, by go_num, H, Hba.out.trans (Hb5.out.mono (by omega))⟩
            case measure => simp [intOf]; omega
    · have H : Hid (bxsB X = true) := BUpto.all (by have h1 := hu.out; have h2 := hl.out; rw [h2]; rw [show n = k by omega]; exact h1) (by have := hl.out; omega)
      go_wp2_with fail
      go_ret
      exact ⟨ret_bool H.out.symm, hbr.out⟩
end Go.Proofs.Ytimpmlmkhjeajaa

/- Heaps of numbers, the greatest one on top: plain mathematics. -/
set_option linter.unusedVariables false
set_option linter.unusedSimpArgs false
namespace Go.Proofs.Ytimpmlmkhjeajaa

/-- Exchanged. -/
def sw (L : List Int) (i j : Nat) (a b : Int) : List Int := (L.set i b).set j a
theorem sw_len (L : List Int) (i j : Nat) (a b : Int) : (sw L i j a b).length = L.length := by simp [sw]
theorem sw_at {L : List Int} {i j : Nat} {a b : Int} (ha : L[i]? = some a) (hb : L[j]? = some b) (k : Nat) : (sw L i j a b)[k]? = if k = j then some a else if k = i then some b else L[k]? := by
  have hi := (List.getElem?_eq_some_iff.1 ha).1
  have hj := (List.getElem?_eq_some_iff.1 hb).1
  unfold sw
  by_cases h1 : k = j
  · subst h1; rw [if_pos rfl, List.getElem?_set_self (by simpa using hj)]
  · rw [if_neg h1, List.getElem?_set_ne (fun e => h1 e.symm)]
    by_cases h2 : k = i
    · subst h2; rw [if_pos rfl, List.getElem?_set_self hi]
    · rw [if_neg h2, List.getElem?_set_ne (fun e => h2 e.symm)]
theorem sw_perm {L : List Int} {i j : Nat} {a b : Int} (ha : L[i]? = some a) (hb : L[j]? = some b) : (sw L i j a b).Perm L := by
  obtain ⟨hi, rfl⟩ := List.getElem?_eq_some_iff.1 ha
  obtain ⟨hj, rfl⟩ := List.getElem?_eq_some_iff.1 hb
  exact List.set_set_perm hi hj

/-- The first n are a heap. -/
def Hpn (L : List Int) (n : Nat) : Prop := ∀ k a b, 0 < k → k < n → L[k]? = some a → L[(k - 1) / 2]? = some b → a ≤ b
def Hp (L : List Int) : Prop := Hpn L L.length
theorem Hpn.max {L : List Int} {n : Nat} (h : Hpn L n) (hn : n ≤ L.length) {m : Int} (hm : L[0]? = some m) : ∀ k a, k < n → L[k]? = some a → a ≤ m := by
  intro k
  induction k using Nat.strongRecOn with
  | _ k ih =>
    intro a hk ha
    by_cases h0 : k = 0
    · subst h0; rw [hm] at ha; injection ha with e; omega
    · have hp : (k - 1) / 2 < L.length := by omega
      have h1 := h k a _ (by omega) hk ha (List.getElem?_eq_getElem hp)
      have h2 := ih ((k - 1) / 2) (by omega) _ (by omega) (List.getElem?_eq_getElem hp)
      omega
theorem Hpn.less {L : List Int} {n m : Nat} (h : Hpn L n) (hm : m ≤ n) : Hpn L m := fun k a b h0 hk => h k a b h0 (by omega)
theorem Hpn.take {L : List Int} {n : Nat} (h : Hpn L n) (hn : n ≤ L.length) : Hp (L.take n) := by
  intro k a b h0 hk ha hb
  have hl : (L.take n).length = n := by rw [List.length_take]; omega
  rw [hl] at hk
  rw [List.getElem?_take, if_pos hk] at ha
  rw [List.getElem?_take, if_pos (by omega)] at hb
  exact h k a b h0 hk ha hb
theorem Hp.of_desc {L : List Int} (h : Desc L) : Hp L := fun k a b h0 hk ha hb => by
  have := desc_gt h hb ha (by omega); omega

/-- On the way up: only the one at j may be too great. -/
def UpI (L : List Int) (j : Nat) : Prop :=
  (∀ k a b, 0 < k → k ≠ j → L[k]? = some a → L[(k - 1) / 2]? = some b → a ≤ b) ∧ (∀ k a b, 0 < k → (k - 1) / 2 = j → 0 < j → L[k]? = some a → L[(j - 1) / 2]? = some b → a ≤ b)
theorem UpI.start {L : List Int} (h : Hp L) (x : Int) : UpI (L ++ [x]) L.length := by
  refine ⟨fun k a b h0 hk ha hb => ?_, fun k a b h0 hk hj ha hb => ?_⟩
  · have hlt : k < L.length := by have := (List.getElem?_eq_some_iff.1 ha).1; simp at this; omega
    rw [List.getElem?_append_left hlt] at ha
    rw [List.getElem?_append_left (by omega)] at hb
    exact h k a b h0 hlt ha hb
  · have := (List.getElem?_eq_some_iff.1 ha).1; simp at this; omega
theorem UpI.step {L : List Int} {j : Nat} {x y : Int} (h : UpI L j) (hj : 0 < j) (hx : L[j]? = some x) (hy : L[(j - 1) / 2]? = some y) (hlt : y < x) : UpI (sw L ((j - 1) / 2) j y x) ((j - 1) / 2) := by
  have hat := sw_at hy hx
  refine ⟨fun k a b h0 hk ha hb => ?_, fun k a b h0 hk hp ha hb => ?_⟩
  · rw [hat] at ha hb
    by_cases e1 : k = j
    · subst e1
      rw [if_pos rfl] at ha
      rw [if_neg (by omega), if_pos rfl] at hb
      injection ha with ha; injection hb with hb; omega
    · rw [if_neg e1, if_neg hk] at ha
      by_cases e2 : (k - 1) / 2 = j
      · rw [if_pos e2] at hb
        injection hb with hb
        have := h.2 k a y h0 e2 hj ha hy
        omega
      · rw [if_neg e2] at hb
        by_cases e3 : (k - 1) / 2 = (j - 1) / 2
        · rw [if_pos e3] at hb
          injection hb with hb
          have := h.1 k a y h0 e1 ha (by rw [e3]; exact hy)
          omega
        · rw [if_neg e3] at hb
          exact h.1 k a b h0 e1 ha hb
  · rw [hat] at ha hb
    rw [if_neg (by omega), if_neg (by omega)] at hb
    have h2 := h.1 ((j - 1) / 2) y b hp (by omega) hy hb
    by_cases e1 : k = j
    · subst e1
      rw [if_pos rfl] at ha
      injection ha with ha; omega
    · rw [if_neg e1, if_neg (by omega)] at ha
      have := h.1 k a y h0 e1 ha (by rw [hk]; exact hy)
      omega
theorem UpI.top {L : List Int} (h : UpI L 0) : Hp L := fun k a b h0 _ ha hb => h.1 k a b h0 (by omega) ha hb
theorem UpI.done {L : List Int} {j : Nat} {x y : Int} (h : UpI L j) (hx : L[j]? = some x) (hy : L[(j - 1) / 2]? = some y) (hle : x ≤ y) : Hp L := fun k a b h0 _ ha hb => by
  by_cases e : k = j
  · subst e; rw [hx] at ha; rw [hy] at hb; injection ha with ha; injection hb with hb; omega
  · exact h.1 k a b h0 e ha hb

/-- On the way down: only the one at i may be too small. -/
def DnI (L : List Int) (n i : Nat) : Prop :=
  (∀ k a b, 0 < k → k < n → (k - 1) / 2 ≠ i → L[k]? = some a → L[(k - 1) / 2]? = some b → a ≤ b) ∧ (∀ k a b, 0 < k → k < n → (k - 1) / 2 = i → 0 < i → L[k]? = some a → L[(i - 1) / 2]? = some b → a ≤ b)
theorem DnI.start {L : List Int} {n : Nat} {x y : Int} (h : Hp L) (hl : L.length = n + 1) (hx : L[0]? = some x) (hy : L[n]? = some y) : DnI (sw L 0 n x y) n 0 := by
  refine ⟨fun k a b h0 hk hp ha hb => ?_, fun k a b _ _ _ hh => absurd hh (by omega)⟩
  rw [sw_at hx hy, if_neg (by omega), if_neg (by omega)] at ha hb
  exact h k a b h0 (by omega) ha hb
theorem DnI.step {L : List Int} {n i j : Nat} {x y : Int} (h : DnI L n i) (hj : 0 < j) (hjn : j < n) (hp : (j - 1) / 2 = i) (hx : L[i]? = some x) (hy : L[j]? = some y) (hlt : x < y)
    (hs : ∀ k a, 0 < k → k < n → (k - 1) / 2 = i → L[k]? = some a → a ≤ y) : DnI (sw L i j x y) n j := by
  have hat := sw_at hx hy
  refine ⟨fun k a b h0 hk hne ha hb => ?_, fun k a b h0 hk he _ ha hb => ?_⟩
  · rw [hat] at ha hb
    rw [if_neg hne] at hb
    by_cases e1 : (k - 1) / 2 = i
    · rw [if_pos e1] at hb
      injection hb with hb
      by_cases e2 : k = j
      · rw [if_pos e2] at ha; injection ha with ha; omega
      · rw [if_neg e2, if_neg (by omega)] at ha
        have := hs k a h0 hk e1 ha
        omega
    · rw [if_neg e1] at hb
      rw [if_neg (fun e => e1 (by rw [e]; exact hp))] at ha
      by_cases e2 : k = i
      · rw [if_pos e2] at ha
        injection ha with ha
        subst ha
        exact h.2 j y b hj hjn hp (by omega) hy (by rw [← e2]; exact hb)
      · rw [if_neg e2] at ha
        exact h.1 k a b h0 hk e1 ha hb
  · rw [hat] at ha hb
    rw [hp, if_neg (by omega), if_pos rfl] at hb
    rw [if_neg (by omega), if_neg (by omega)] at ha
    injection hb with hb
    have := h.1 k a y h0 hk (by omega) ha (by rw [he]; exact hy)
    omega
theorem DnI.done {L : List Int} {n i : Nat} {x : Int} (h : DnI L n i) (hx : L[i]? = some x) (hs : ∀ k a, 0 < k → k < n → (k - 1) / 2 = i → L[k]? = some a → a ≤ x) : Hpn L n := fun k a b h0 hk ha hb => by
  by_cases e : (k - 1) / 2 = i
  · rw [e, hx] at hb; injection hb with hb; have := hs k a h0 hk e ha; omega
  · exact h.1 k a b h0 hk e ha hb
/-- Behind the way down: the rest is a heap, the same numbers. -/
structure DnS (L M : List Int) (n : Nat) : Prop where
  perm : M.Perm L
  len : M.length = L.length
  past : ∀ k, n ≤ k → M[k]? = L[k]?
theorem DnS.refl (L : List Int) (n : Nat) : DnS L L n := ⟨List.Perm.refl _, rfl, fun _ _ => rfl⟩
theorem DnS.step {L M : List Int} {n i j : Nat} {x y : Int} (h : DnS L M n) (hx : M[i]? = some x) (hy : M[j]? = some y) (hi : i < n) (hj : j < n) : DnS L (sw M i j x y) n :=
  ⟨(sw_perm hx hy).trans h.perm, by rw [sw_len]; exact h.len, fun k hk => by rw [sw_at hx hy, if_neg (by omega), if_neg (by omega)]; exact h.past k hk⟩

/-- Taking the greatest one. -/
structure Took (L M : List Int) (x : Int) : Prop where
  perm : (x :: M).Perm L
  max : ∀ a ∈ L, a ≤ x
  heap : Hp M
theorem took_of {L M : List Int} {n : Nat} {x y : Int} (h : Hp L) (hl : L.length = n + 1) (hx : L[0]? = some x) (hy : L[n]? = some y) (hd : DnS (sw L 0 n x y) M n) (hh : Hpn M n) : M[n]? = some x ∧ Took L (M.take n) x := by
  have e1 : M[n]? = some x := by rw [hd.past n (Nat.le_refl _), sw_at hx hy, if_pos rfl]
  have hlen : M.length = n + 1 := by rw [hd.len, sw_len, hl]
  refine ⟨e1, ?_, fun a ha => ?_, hh.take (by omega)⟩
  · have h1 : M = M.take n ++ [x] := by
      have h2 : M.take (n + 1) = M.take n ++ [x] := by rw [List.take_add_one, e1]; rfl
      rw [List.take_of_length_le (by omega)] at h2
      exact h2
    have h3 : (x :: M.take n).Perm (M.take n ++ [x]) := (List.perm_append_singleton x (M.take n)).symm
    rw [← h1] at h3
    exact h3.trans (hd.perm.trans (sw_perm hx hy))
  · obtain ⟨k, hk, e⟩ := List.mem_iff_getElem.1 ha
    exact Hpn.max h (Nat.le_refl _) hx k a hk (by rw [List.getElem?_eq_getElem hk, e])

/-- What was taken, and what is left. -/
structure Tk (S ids R : List Int) : Prop where
  perm : (ids ++ R).Perm S
  over : ∀ a ∈ ids, ∀ b ∈ R, b < a
  desc : Desc ids
theorem Tk.start {S R : List Int} (h : R.Perm S) : Tk S [] R := ⟨h, fun a ha => by simp at ha, List.Pairwise.nil⟩
theorem Tk.step {S ids R M : List Int} {x : Int} (h : Tk S ids R) (hS : Desc S) (ht : Took R M x) : Tk S (ids ++ [x]) M := by
  have hp : (ids ++ [x] ++ M).Perm S := by
    rw [List.append_assoc]
    exact (List.Perm.append_left ids ht.perm).trans h.perm
  have hnd : (ids ++ [x] ++ M).Nodup := by
    rw [hp.nodup_iff]
    exact hS.imp (fun hab => by omega)
  refine ⟨hp, fun a ha b hb => ?_, ?_⟩
  · have hbR : b ∈ R := ht.perm.subset (List.mem_cons_of_mem _ hb)
    rcases List.mem_append.1 ha with h1 | h1
    · exact h.over a h1 b hbR
    · have h2 := ht.max b hbR
      rw [List.mem_singleton] at h1
      subst h1
      have h3 := (List.nodup_append.1 hnd).2.2 a (List.mem_append_right _ (List.mem_singleton_self _)) b hb
      omega
  · unfold Desc at *
    rw [List.pairwise_append]
    refine ⟨h.desc, List.pairwise_singleton _ _, fun a ha b hb => ?_⟩
    rw [List.mem_singleton] at hb
    subst hb
    exact h.over a ha b (ht.perm.subset (List.mem_cons_self ..))
theorem Tk.len {S ids R : List Int} (h : Tk S ids R) : ids.length + R.length = S.length := by
  have := h.perm.length_eq; simpa using this
theorem Tk.take {S ids R : List Int} (h : Tk S ids R) (hS : Desc S) : ids = S.take ids.length := by
  have hsorted : ∃ R', R'.Perm R ∧ Desc R' := by
    have hR : R.Nodup := by
      have h1 : (ids ++ R).Nodup := by rw [h.perm.nodup_iff]; exact hS.imp (fun hab => by omega)
      exact (List.nodup_append.1 h1).2.1
    refine ⟨R.mergeSort (fun a b => decide (b ≤ a)), List.mergeSort_perm _ _, ?_⟩
    have h1 := List.pairwise_mergeSort (le := fun a b : Int => decide (b ≤ a)) (fun a b c h1 h2 => by simp at *; omega) (fun a b => by simp; omega) R
    have h2 : (R.mergeSort (fun a b => decide (b ≤ a))).Nodup := by rw [(List.mergeSort_perm R _).nodup_iff]; exact hR
    unfold Desc
    exact (h1.and h2).imp (fun {a b} hab => by have := hab.1; have := hab.2; simp at *; omega)
  obtain ⟨R', hp, hd⟩ := hsorted
  have hall : Desc (ids ++ R') := by
    unfold Desc at *
    rw [List.pairwise_append]
    exact ⟨h.desc, hd, fun a ha b hb => h.over a ha b (hp.subset hb)⟩
  have he : ids ++ R' = S := desc_ext hall hS (fun x => ((List.Perm.append_left ids hp).trans h.perm).mem_iff)
  rw [← he, List.take_append_of_le_length (Nat.le_refl _), List.take_length]
/-- All of a box, with a further one: the heap's numbers are those of insD. -/
theorem desc_nodup {L : List Int} (h : Desc L) : L.Nodup := h.imp (fun hab => by omega)
theorem insD_new {L : List Int} (h : Desc L) {id : Int} (hn : id ∉ L) : (L ++ [id]).Perm (insD id L) := by
  rw [List.perm_ext_iff_of_nodup]
  · intro a; rw [insD_mem, List.mem_append, List.mem_singleton]; exact ⟨fun h => h.symm, fun h => h.symm⟩
  · rw [List.nodup_append]
    exact ⟨desc_nodup h, by simp, fun a ha b hb e => hn (by rw [List.mem_singleton] at hb; rw [← hb, ← e]; exact ha)⟩
  · exact desc_nodup (insD_desc h)
theorem insD_old {L : List Int} (h : Desc L) {id : Int} (hn : id ∈ L) : L = insD id L :=
  desc_ext h (insD_desc h) (fun x => by rw [insD_mem]; exact ⟨fun h => .inr h, fun hh => by rcases hh with rfl | h1; exact hn; exact h1⟩)
end Go.Proofs.Ytimpmlmkhjeajaa

/- The heap of a box: its methods, called through the interface. -/
set_option linter.unusedVariables false
set_option linter.unusedSimpArgs false
namespace Go.Proofs.Ytimpmlmkhjeajaa
open Go.RowKit Go.BigFrame

theorem h_len (A : Option Addr) (n c : Nat) (w : World) (hn : n ≤ maxLen) :
    Calls Try.prog 115 #[.slice A n c] w fun e w' => e = .returned (.int .i64 (n : Int)) ∧ w = w' := by
  unfold maxLen at hn
  go_enter Try.func115, Try.ntmps115
  go_wp2_with fail
  go_ret
  exact ⟨rfl, rfl⟩

/-- A row of numbers, all of it. -/
abbrev Row (w : World) (base g m c : Nat) (L : List Int) : Prop := w.ownsRow base 3 1 (.slice (some ⟨g, 0, none⟩) m c) m (L.map (Value.int .i64))
theorem Row.len {w : World} {base g m c : Nat} {L : List Int} (h : Row w base g m c L) : L.length = m := by have := h.1; rw [List.length_map] at this; omega
theorem Row.cell {w : World} {base g m c : Nat} {L : List Int} (h : Row w base g m c L) {k : Nat} {a : Int} (hk : L[k]? = some a) : w.cell? ⟨g, k, none⟩ = some (.int .i64 a) := by
  have hl := h.len
  have hlt := (List.getElem?_eq_some_iff.1 hk).1
  rw [h.cellAt k (by omega), List.getElem?_map, hk]; rfl

set_option maxHeartbeats 400000 in
theorem h_less (base g m c i j : Nat) (a b : Int) (L : List Int) (w : World) (h : Row w base g m c L) (ha : L[i]? = some a) (hb : L[j]? = some b) (hm : m ≤ 1000) :
    Calls Try.prog 152 #[.slice (some ⟨g, 0, none⟩) m c, .int .i64 i, .int .i64 j] w fun e w' => e = .returned (.bool (decide (b < a))) ∧ ∃ q, w' = w.drewN q := by
  have ca := h.cell ha
  have cb := h.cell hb
  have hi : (i : Int) < (m : Int) := by have := (List.getElem?_eq_some_iff.1 ha).1; have := h.len; omega
  have hj : (j : Int) < (m : Int) := by have := (List.getElem?_eq_some_iff.1 hb).1; have := h.len; omega
  have hi' : i < m := by omega
  have hj' : j < m := by omega
  clear ha hb h
  go_enter Try.func152, Try.ntmps152
  go_wp2_with fail
  go_quiet (fail)
  go_wp2_with fail
  go_ret
  exact ⟨rfl, _, rfl⟩

theorem sw_own {w : World} {base g m c i j : Nat} {a b : Int} {L : List Int} (h : Row w base g m c L) (ha : L[i]? = some a) (hb : L[j]? = some b) :
    Row ((w.setCell ⟨g, i, none⟩ (.int .i64 b)).setCell ⟨g, j, none⟩ (.int .i64 a)) base g m c (sw L i j a b) ∧ w.grownBy ((w.setCell ⟨g, i, none⟩ (.int .i64 b)).setCell ⟨g, j, none⟩ (.int .i64 a)) (some g) := by
  have s1 := h.stored i (.int .i64 b)
  have s2 := s1.1.stored j (.int .i64 a)
  refine ⟨?_, s1.2.trans s2.2⟩
  have e : ((L.map (Value.int .i64)).set i (.int .i64 b)).set j (.int .i64 a) = (sw L i j a b).map (Value.int .i64) := by simp [sw, List.map_set]
  have h2 := s2.1
  rw [e] at h2
  exact h2

set_option maxHeartbeats 1000000 in
theorem h_swap (base g m c i j : Nat) (a b : Int) (L : List Int) (w : World) (h : Row w base g m c L) (ha : L[i]? = some a) (hb : L[j]? = some b) (hm : m ≤ 1000) :
    Calls Try.prog 155 #[.slice (some ⟨g, 0, none⟩) m c, .int .i64 i, .int .i64 j] w fun e w' => e = .returned (.tuple #[]) ∧ Row w' base g m c (sw L i j a b) ∧ w.grownBy w' (some g) := by
  have ca := h.cell ha
  have cb := h.cell hb
  have fa := h.frozenAt i
  have fb := h.frozenAt j
  have hi : (i : Int) < (m : Int) := by have := (List.getElem?_eq_some_iff.1 ha).1; have := h.len; omega
  have hj : (j : Int) < (m : Int) := by have := (List.getElem?_eq_some_iff.1 hb).1; have := h.len; omega
  have hi' : i < m := by omega
  have hj' : j < m := by omega
  have Hsw := hide (sw_own h ha hb)
  have cij : (w.setCell ⟨g, i, none⟩ (.int .i64 b)).cell? ⟨g, j, none⟩ = some (.int .i64 b) := by
    by_cases e : i = j
    · subst e
      have s1 := (h.stored i (.int .i64 b)).1
      rw [s1.cellAt i (by omega), List.getElem?_set_self (by rw [List.length_map, h.len]; omega)]
    · have s1 := (h.stored i (.int .i64 b)).1
      rw [s1.cellAt j (by omega), List.getElem?_set_ne e, List.getElem?_map, hb]; rfl
  clear ha hb h
  go_enter Try.func155, Try.ntmps155
  go_wp2_with fail
  go_region
  all_goals
    go_wp2_with fail
    go_end0
    exact ⟨rfl, Hsw.out.1, Hsw.out.2.trans ⟨rfl, rfl, rfl, Nat.le_refl _, fun _ _ _ => rfl⟩⟩
theorem h_less_t (base g m c i j : Nat) (z1 z2 a b : Int) (L : List Int) (t : Bool) (w : World) (h : Row w base g m c L) (ha : L[i]? = some a) (hb : L[j]? = some b) (hm : m ≤ 1000) (e1 : z1 = (i : Int)) (e2 : z2 = (j : Int)) (ht : decide (b < a) = t) :
    Calls Try.prog 152 #[.slice (some ⟨g, 0, none⟩) m c, .int .i64 z1, .int .i64 z2] w fun e w' => e = .returned (.bool t) ∧ ∃ q, w' = w.drewN q := by
  subst e1 e2 ht; exact h_less base g m c i j a b L w h ha hb hm
theorem h_swap_t (base g m c i j : Nat) (z1 z2 a b : Int) (L : List Int) (w : World) (h : Row w base g m c L) (ha : L[i]? = some a) (hb : L[j]? = some b) (hm : m ≤ 1000) (e1 : z1 = (i : Int)) (e2 : z2 = (j : Int)) :
    Calls Try.prog 155 #[.slice (some ⟨g, 0, none⟩) m c, .int .i64 z1, .int .i64 z2] w fun e w' => e = .returned (.tuple #[]) ∧ Row w' base g m c (sw L i j a b) ∧ w.grownBy w' (some g) := by
  subst e1 e2; exact h_swap base g m c i j a b L w h ha hb hm
theorem hdrewN (w : World) (k : Nat) (r : Option Nat) : w.grownBy (w.drewN k) r := ⟨rfl, rfl, rfl, Nat.le_refl _, fun _ _ _ => rfl⟩
theorem Row.drewN {w : World} {base g m c : Nat} {L : List Int} (h : Row w base g m c L) (k : Nat) : Row (w.drewN k) base g m c L := h
/-- The cell of the heap's variable. -/
theorem Blk.cell0 {w : World} {p : Nat} {t : TypeId} {v : Value} (h : Blk w p t #[v]) : w.cell? ⟨p, 0, none⟩ = some v := (h.cell 0).trans rfl
end Go.Proofs.Ytimpmlmkhjeajaa

/- container/heap over the heap of a box: up. -/
set_option linter.unusedVariables false
set_option linter.unusedSimpArgs false
namespace Go.Proofs.Ytimpmlmkhjeajaa
open Go.RowKit Go.BigFrame

set_option maxRecDepth 100000 in
theorem m_val (k p : Nat) (v : Value) (name : String) (f : FuncId) (w : World) (h : w.cell? ⟨p, 0, none⟩ = some v)
    (hf : (Try.t106.methods.find? (fun x => x.name == name)).map (fun m => (m.path.toList, m.func)) = some ([], some (f, false))) :
    (method (k + 1) 106 (.pointer (some ⟨p, 0, none⟩)) name).run Try.prog w = .ok (f, v) w := by
  unfold method
  simp only [Sem.run_bind]
  go_simp
  rw [Option.map_eq_some_iff] at hf
  obtain ⟨m, h1, h2⟩ := hf
  injection h2 with h2 h3
  rw [h1]
  simp only [h2, h3, follow]
  generalize (if m.path = #[] then some ((name.splitOn ".").getLast?.getD name) else none) = o
  unfold receiverAt
  have hg : ∀ w, (Place.get 106 (Place.val (Value.pointer (some ⟨p, 0, none⟩)))).run Try.prog w = .ok (Value.pointer (some ⟨p, 0, none⟩)) w := fun _ => rfl
  have hc : ∀ (s : String) w, (Builtin.ssaWrapNilChk_ #[106] 106 #[Value.pointer (some ⟨p, 0, none⟩), strVal "", strVal s]).run Try.prog w = .ok (Value.pointer (some ⟨p, 0, none⟩)) w := fun _ _ => rfl
  cases o
  · go_simp
  · go_simp
theorem m_len (k p : Nat) (v : Value) (w : World) (h : w.cell? ⟨p, 0, none⟩ = some v) :
    (method (k + 1) 106 (.pointer (some ⟨p, 0, none⟩)) "Len").run Try.prog w = .ok (115, v) w := m_val k p v "Len" _ w h (by kernel_rfl)
theorem m_less (k p : Nat) (v : Value) (w : World) (h : w.cell? ⟨p, 0, none⟩ = some v) :
    (method (k + 1) 106 (.pointer (some ⟨p, 0, none⟩)) "Less").run Try.prog w = .ok (152, v) w := m_val k p v "Less" _ w h (by kernel_rfl)
theorem m_swap (k p : Nat) (v : Value) (w : World) (h : w.cell? ⟨p, 0, none⟩ = some v) :
    (method (k + 1) 106 (.pointer (some ⟨p, 0, none⟩)) "Swap").run Try.prog w = .ok (155, v) w := m_val k p v "Swap" _ w h (by kernel_rfl)

/-- Behind the way up. -/
def Upped (base g m c : Nat) (L : List Int) (w : World) (e : Ending) (w' : World) : Prop := e = .returned (.tuple #[]) ∧ ∃ M, Hp M ∧ M.Perm L ∧ Row w' base g m c M ∧ w.grownBy w' (some g)

set_option maxHeartbeats 2000000 in
set_option maxRecDepth 100000 in
theorem up_any (base p g m c j : Nat) (z : Int) (T : TypeId) (L : List Int) (w : World) (hz : z = (j : Int)) (hp : Blk w p T #[.slice (some ⟨g, 0, none⟩) m c]) (hpg : p ≠ g) (h : Row w base g m c L) (hj : j < m) (hu : UpI L j) (hm : m ≤ 1000) :
    Calls Try.prog 114 #[.iface 106 (.pointer (some ⟨p, 0, none⟩)), .int .i64 z] w (Upped base g m c L w) := by
  subst hz
  have Hp0 := hide hp
  have H := hide h
  have HU := hide hu
  clear hp h hu
  go_enter Try.func114, Try.ntmps114
  go_wp2_with fail
  go_loopw [1, 4] (fun j' _ wr => ∃ (k : Nat) (M : List Int), k ≤ j ∧ j' = .int .i64 k ∧ Hid (UpI M k) ∧ Hid (M.Perm L) ∧ Hid (Row wr base g m c M) ∧ Hid (w.grownBy wr (some g))) (fun j' _ _ => (intOf j').toNat)
  case atStart => exact ⟨j, L, Nat.le_refl _, rfl, HU.out, List.Perm.refl _, H.out, World.grownBy.refl _ _⟩
  case round =>
    obtain ⟨k, M, hk, rfl, hu, hpm, hrow, hgr⟩ := hrel
    have Hpr := hide ((Hp0.out.grown hgr.out (by simp [hpg])).cell0)
    have hlen := hide hrow.out.len
    rcases k with _ | k
    · have HD : Hid (Hp M) := hu.out.top
      go_wp2_with fail
      go_end0
      exact ⟨rfl, M, HD.out, hpm.out, hrow.out, hgr.out⟩
    · obtain ⟨x, hx⟩ : ∃ x, M[k + 1]? = some x := ⟨M[k + 1]'(by have := hlen.out; omega), List.getElem?_eq_getElem _⟩
      obtain ⟨y, hy⟩ : ∃ y, M[k / 2]? = some y := ⟨M[k / 2]'(by have := hlen.out; omega), List.getElem?_eq_getElem _⟩
      have hne : ((k : Int) / 2 == (k : Int) + 1) = false := by simp; omega
      have hml1 := m_less 268 p _ wr Hpr.out
      have Hx := hide hx
      have Hy := hide hy
      by_cases hlt : y < x
      · have Hlt : Hid (decide (y < x) = true) := by show decide (y < x) = true; simp [hlt]
        have HS : Hid (UpI (sw M (k / 2) (k + 1) y x) (k / 2)) := hu.out.step (Nat.succ_pos _) hx hy hlt
        have HM : Hid ((sw M (k / 2) (k + 1) y x).Perm L) := (sw_perm hy hx).trans hpm.out
        clear hx hy hlt
        go_wp2_with fail
        refine (h_less_t base g m c (k + 1) (k / 2) _ _ x y M true wr hrow.out Hx.out Hy.out hm (by omega) (by omega) Hlt.out).mono ?_
        rintro e w6 ⟨rfl, q, e6⟩
        have Hr6 : Hid (Row w6 base g m c M) := by show Row _ _ _ _ _ _; rw [e6]; exact hrow.out.drewN q
        have Hg6 : Hid (w.grownBy w6 (some g)) := by show w.grownBy _ _; rw [e6]; exact hgr.out.trans (hdrewN _ _ _)
        have hsw6 := m_swap 268 p _ w6 ((Hp0.out.grown Hg6.out (by simp [hpg])).cell0)
        clear e6
        go_wp2_with fail
        refine (h_swap_t base g m c (k / 2) (k + 1) _ _ y x M w6 Hr6.out Hy.out Hx.out hm (by omega) (by omega)).mono ?_
        rintro e w7 ⟨rfl, hr7, hg7⟩
        have Hr7 := hide hr7
        have Hg7 := hide (Hg6.out.trans hg7)
        clear hr7 hg7
        go_wp2_with fail
        go_roundw
        case rel => exact ⟨k / 2, _, by omega, by go_num, HS.out, HM.out, Hr7.out, Hg7.out⟩
        case measure => simp [intOf]; omega
      · have Hlt : Hid (decide (y < x) = false) := by show decide (y < x) = false; simp; omega
        have HD : Hid (Hp M) := hu.out.done hx hy (by omega)
        clear hx hy hlt
        go_wp2_with fail
        refine (h_less_t base g m c (k + 1) (k / 2) _ _ x y M false wr hrow.out Hx.out Hy.out hm (by omega) (by omega) Hlt.out).mono ?_
        rintro e w6 ⟨rfl, q, rfl⟩
        go_wp2_with fail
        go_end0
        exact ⟨rfl, M, HD.out, hpm.out, hrow.out.drewN q, hgr.out.trans (hdrewN _ _ _)⟩
end Go.Proofs.Ytimpmlmkhjeajaa

/- container/heap over the heap of a box: down. -/
set_option linter.unusedVariables false
set_option linter.unusedSimpArgs false
namespace Go.Proofs.Ytimpmlmkhjeajaa
open Go.RowKit Go.BigFrame

theorem DnI.leaf {L : List Int} {n i : Nat} (h : DnI L n i) (hn : n ≤ 2 * i + 1) : Hpn L n := fun k a b h0 hk ha hb => h.1 k a b h0 hk (by omega) ha hb
/-- Behind the way down. -/
def Downed (base g m c n : Nat) (L : List Int) (w : World) (e : Ending) (w' : World) : Prop := ∃ (t : Bool) (M : List Int), e = .returned (.bool t) ∧ Hpn M n ∧ DnS L M n ∧ Row w' base g m c M ∧ w.grownBy w' (some g)

set_option maxHeartbeats 4000000 in
set_option maxRecDepth 100000 in
theorem down_any (base p g m c n : Nat) (z : Int) (T : TypeId) (L : List Int) (w : World) (hz : z = (n : Int)) (hp : Blk w p T #[.slice (some ⟨g, 0, none⟩) m c]) (hpg : p ≠ g) (h : Row w base g m c L) (hn : n < m) (hu : DnI L n 0) (hm : m ≤ 1000) :
    Calls Try.prog 128 #[.iface 106 (.pointer (some ⟨p, 0, none⟩)), .int .i64 0, .int .i64 z] w (Downed base g m c n L w) := by
  subst hz
  have Hp0 := hide hp
  have H := hide h
  have HU := hide hu
  clear hp h hu
  go_enter Try.func128, Try.ntmps128
  go_wp2_with fail
  go_loopw [7, 8, 9, 10] (fun i' _ _ _ wr => ∃ (k : Nat) (M : List Int), k ≤ n ∧ i' = .int .i64 k ∧ Hid (DnI M n k) ∧ Hid (DnS L M n) ∧ Hid (Row wr base g m c M) ∧ Hid (w.grownBy wr (some g))) (fun i' _ _ _ _ => n - (intOf i').toNat)
  case atStart => exact ⟨0, L, Nat.zero_le _, rfl, HU.out, DnS.refl _ _, H.out, World.grownBy.refl _ _⟩
  case round =>
    obtain ⟨k, M, hk, rfl, hu, hq, hrow, hgr⟩ := hrel
    have hlen := hide hrow.out.len
    by_cases hle : n ≤ 2 * k + 1
    · have HD : Hid (Hpn M n) := hu.out.leaf hle
      have hle' : (n : Int) ≤ 2 * (k : Int) + 1 := by omega
      go_wp2_with fail
      go_ret
      exact ⟨_, M, rfl, HD.out, hq.out, hrow.out, hgr.out⟩
    · have hlt1 : 2 * (k : Int) + 1 < (n : Int) := by omega
      obtain ⟨x, HX⟩ : ∃ x, Hid (M[k]? = some x) := ⟨M[k]'(by have := hlen.out; omega), List.getElem?_eq_getElem _⟩
      obtain ⟨y, HY⟩ : ∃ y, Hid (M[2 * k + 1]? = some y) := ⟨M[2 * k + 1]'(by have := hlen.out; omega), List.getElem?_eq_getElem _⟩
      by_cases h2 : 2 * k + 2 < n
      · have h2' : 2 * (k : Int) + 1 + 1 < (n : Int) := by omega
        obtain ⟨y2, HY2⟩ : ∃ y2, Hid (M[2 * k + 2]? = some y2) := ⟨M[2 * k + 2]'(by have := hlen.out; omega), List.getElem?_eq_getElem _⟩
        have hmr := m_less 268 p _ wr ((Hp0.out.grown hgr.out (by simp [hpg])).cell0)
        by_cases hyy : y < y2
        · have Hyy : Hid (decide (y < y2) = true) := by show decide (y < y2) = true; simp [hyy]
          have HC : Hid (∀ kk a, 0 < kk → kk < n → (kk - 1) / 2 = k → M[kk]? = some a → a ≤ y2) := fun kk a h0 h1 h3 h4 => by
            by_cases e : kk = 2 * k + 1
            · subst e; have := HY.out; rw [h4] at this; injection this with this; omega
            · have e2 : kk = 2 * k + 2 := by omega
              subst e2; have := HY2.out; rw [h4] at this; injection this with this; omega
          clear hyy
          go_wp2_with fail
          refine (h_less_t base g m c (2 * k + 2) (2 * k + 1) _ _ y2 y M true wr hrow.out HY2.out HY.out hm (by omega) (by omega) Hyy.out).mono ?_
          rintro e w5 ⟨rfl, q5, e5⟩
          have Hr5 : Hid (Row w5 base g m c M) := by show Row _ _ _ _ _ _; rw [e5]; exact hrow.out.drewN q5
          have Hg5 : Hid (w.grownBy w5 (some g)) := by show w.grownBy _ _; rw [e5]; exact hgr.out.trans (hdrewN _ _ _)
          clear e5
          have hx0 := HX.out
          have hy0 := HY2.out
          have hmw5 := m_less 268 p _ w5 ((Hp0.out.grown Hg5.out (by simp [hpg])).cell0)
          by_cases hlt : x < y2
          · have Hlt : Hid (decide (x < y2) = true) := by show decide (x < y2) = true; simp [hlt]
            have HS : Hid (DnI (sw M k (2 * k + 2) x y2) n (2 * k + 2)) := hu.out.step (by omega) (by omega) (by omega) hx0 hy0 hlt HC.out
            have HQ : Hid (DnS L (sw M k (2 * k + 2) x y2) n) := hq.out.step hx0 hy0 (by omega) (by omega)
            clear hx0 hy0 hlt
            go_wp2_with fail
            refine (h_less_t base g m c (2 * k + 2) k _ _ y2 x M true w5 Hr5.out HY2.out HX.out hm (by omega) (by omega) Hlt.out).mono ?_
            rintro e w6 ⟨rfl, q6, e6⟩
            have Hr6 : Hid (Row w6 base g m c M) := by show Row _ _ _ _ _ _; rw [e6]; exact Hr5.out.drewN q6
            have Hg6 : Hid (w.grownBy w6 (some g)) := by show w.grownBy _ _; rw [e6]; exact Hg5.out.trans (hdrewN _ _ _)
            have hsw6 := m_swap 268 p _ w6 ((Hp0.out.grown Hg6.out (by simp [hpg])).cell0)
            clear e6
            go_wp2_with fail
            refine (h_swap_t base g m c k (2 * k + 2) _ _ x y2 M w6 Hr6.out HX.out HY2.out hm (by omega) (by omega)).mono ?_
            rintro e w7 ⟨rfl, hr7, hg7⟩
            have Hr7 := hide hr7
            have Hg7 := hide (Hg6.out.trans hg7)
            clear hr7 hg7
            go_wp2_with fail
            go_roundw
            case rel => exact ⟨2 * k + 2, _, by omega, by go_num, HS.out, HQ.out, Hr7.out, Hg7.out⟩
            case measure => simp [intOf]; omega
          · have Hlt : Hid (decide (x < y2) = false) := by show decide (x < y2) = false; simp; omega
            have HD : Hid (Hpn M n) := hu.out.done hx0 (fun kk a h0 h1 h2 h3 => by have := HC.out kk a h0 h1 h2 h3; omega)
            clear hx0 hy0 hlt
            go_wp2_with fail
            refine (h_less_t base g m c (2 * k + 2) k _ _ y2 x M false w5 Hr5.out HY2.out HX.out hm (by omega) (by omega) Hlt.out).mono ?_
            rintro e w6 ⟨rfl, q6, rfl⟩
            go_wp2_with fail
            go_ret
            exact ⟨_, M, rfl, HD.out, hq.out, Hr5.out.drewN q6, Hg5.out.trans (hdrewN _ _ _)⟩
        · have Hyy : Hid (decide (y < y2) = false) := by show decide (y < y2) = false; simp; omega
          have HC : Hid (∀ kk a, 0 < kk → kk < n → (kk - 1) / 2 = k → M[kk]? = some a → a ≤ y) := fun kk a h0 h1 h3 h4 => by
            by_cases e : kk = 2 * k + 1
            · subst e; have := HY.out; rw [h4] at this; injection this with this; omega
            · have e2 : kk = 2 * k + 2 := by omega
              subst e2; have := HY2.out; rw [h4] at this; injection this with this; omega
          clear hyy
          go_wp2_with fail
          refine (h_less_t base g m c (2 * k + 2) (2 * k + 1) _ _ y2 y M false wr hrow.out HY2.out HY.out hm (by omega) (by omega) Hyy.out).mono ?_
          rintro e w5 ⟨rfl, q5, e5⟩
          have Hr5 : Hid (Row w5 base g m c M) := by show Row _ _ _ _ _ _; rw [e5]; exact hrow.out.drewN q5
          have Hg5 : Hid (w.grownBy w5 (some g)) := by show w.grownBy _ _; rw [e5]; exact hgr.out.trans (hdrewN _ _ _)
          clear e5
          have hx0 := HX.out
          have hy0 := HY.out
          have hmw5 := m_less 268 p _ w5 ((Hp0.out.grown Hg5.out (by simp [hpg])).cell0)
          by_cases hlt : x < y
          · have Hlt : Hid (decide (x < y) = true) := by show decide (x < y) = true; simp [hlt]
            have HS : Hid (DnI (sw M k (2 * k + 1) x y) n (2 * k + 1)) := hu.out.step (by omega) (by omega) (by omega) hx0 hy0 hlt HC.out
            have HQ : Hid (DnS L (sw M k (2 * k + 1) x y) n) := hq.out.step hx0 hy0 (by omega) (by omega)
            clear hx0 hy0 hlt
            go_wp2_with fail
            refine (h_less_t base g m c (2 * k + 1) k _ _ y x M true w5 Hr5.out HY.out HX.out hm (by omega) (by omega) Hlt.out).mono ?_
            rintro e w6 ⟨rfl, q6, e6⟩
            have Hr6 : Hid (Row w6 base g m c M) := by show Row _ _ _ _ _ _; rw [e6]; exact Hr5.out.drewN q6
            have Hg6 : Hid (w.grownBy w6 (some g)) := by show w.grownBy _ _; rw [e6]; exact Hg5.out.trans (hdrewN _ _ _)
            have hsw6 := m_swap 268 p _ w6 ((Hp0.out.grown Hg6.out (by simp [hpg])).cell0)
            clear e6
            go_wp2_with fail
            refine (h_swap_t base g m c k (2 * k + 1) _ _ x y M w6 Hr6.out HX.out HY.out hm (by omega) (by omega)).mono ?_
            rintro e w7 ⟨rfl, hr7, hg7⟩
            have Hr7 := hide hr7
            have Hg7 := hide (Hg6.out.trans hg7)
            clear hr7 hg7
            go_wp2_with fail
            go_roundw
            case rel => exact ⟨2 * k + 1, _, by omega, by go_num, HS.out, HQ.out, Hr7.out, Hg7.out⟩
            case measure => simp [intOf]; omega
          · have Hlt : Hid (decide (x < y) = false) := by show decide (x < y) = false; simp; omega
            have HD : Hid (Hpn M n) := hu.out.done hx0 (fun kk a h0 h1 h2 h3 => by have := HC.out kk a h0 h1 h2 h3; omega)
            clear hx0 hy0 hlt
            go_wp2_with fail
            refine (h_less_t base g m c (2 * k + 1) k _ _ y x M false w5 Hr5.out HY.out HX.out hm (by omega) (by omega) Hlt.out).mono ?_
            rintro e w6 ⟨rfl, q6, rfl⟩
            go_wp2_with fail
            go_ret
            exact ⟨_, M, rfl, HD.out, hq.out, Hr5.out.drewN q6, Hg5.out.trans (hdrewN _ _ _)⟩
      · have h2' : ¬ (2 * (k : Int) + 1 + 1 < (n : Int)) := by omega
        have HC : Hid (∀ kk a, 0 < kk → kk < n → (kk - 1) / 2 = k → M[kk]? = some a → a ≤ y) := fun kk a h0 h1 h3 h4 => by
          have e : kk = 2 * k + 1 := by omega
          subst e; have := HY.out; rw [h4] at this; injection this with this; omega
        have hx0 := HX.out
        have hy0 := HY.out
        have hmwr := m_less 268 p _ wr ((Hp0.out.grown hgr.out (by simp [hpg])).cell0)
        by_cases hlt : x < y
        · have Hlt : Hid (decide (x < y) = true) := by show decide (x < y) = true; simp [hlt]
          have HS : Hid (DnI (sw M k (2 * k + 1) x y) n (2 * k + 1)) := hu.out.step (by omega) (by omega) (by omega) hx0 hy0 hlt HC.out
          have HQ : Hid (DnS L (sw M k (2 * k + 1) x y) n) := hq.out.step hx0 hy0 (by omega) (by omega)
          clear hx0 hy0 hlt
          go_wp2_with fail
          refine (h_less_t base g m c (2 * k + 1) k _ _ y x M true wr hrow.out HY.out HX.out hm (by omega) (by omega) Hlt.out).mono ?_
          rintro e w6 ⟨rfl, q6, e6⟩
          have Hr6 : Hid (Row w6 base g m c M) := by show Row _ _ _ _ _ _; rw [e6]; exact hrow.out.drewN q6
          have Hg6 : Hid (w.grownBy w6 (some g)) := by show w.grownBy _ _; rw [e6]; exact hgr.out.trans (hdrewN _ _ _)
          have hsw6 := m_swap 268 p _ w6 ((Hp0.out.grown Hg6.out (by simp [hpg])).cell0)
          clear e6
          go_wp2_with fail
          refine (h_swap_t base g m c k (2 * k + 1) _ _ x y M w6 Hr6.out HX.out HY.out hm (by omega) (by omega)).mono ?_
          rintro e w7 ⟨rfl, hr7, hg7⟩
          have Hr7 := hide hr7
          have Hg7 := hide (Hg6.out.trans hg7)
          clear hr7 hg7
          go_wp2_with fail
          go_roundw
          case rel => exact ⟨2 * k + 1, _, by omega, by go_num, HS.out, HQ.out, Hr7.out, Hg7.out⟩
          case measure => simp [intOf]; omega
        · have Hlt : Hid (decide (x < y) = false) := by show decide (x < y) = false; simp; omega
          have HD : Hid (Hpn M n) := hu.out.done hx0 (fun kk a h0 h1 h2 h3 => by have := HC.out kk a h0 h1 h2 h3; omega)
          clear hx0 hy0 hlt
          go_wp2_with fail
          refine (h_less_t base g m c (2 * k + 1) k _ _ y x M false wr hrow.out HY.out HX.out hm (by omega) (by omega) Hlt.out).mono ?_
          rintro e w6 ⟨rfl, q6, rfl⟩
          go_wp2_with fail
          go_ret
          exact ⟨_, M, rfl, HD.out, hq.out, hrow.out.drewN q6, hgr.out.trans (hdrewN _ _ _)⟩
end Go.Proofs.Ytimpmlmkhjeajaa

/- container/heap over the heap of a box: Push, Pop. -/
set_option linter.unusedVariables false
set_option linter.unusedSimpArgs false
namespace Go.Proofs.Ytimpmlmkhjeajaa
open Go.RowKit Go.BigFrame

theorem as_int (v : Value) (w : World) : (Instr.typeAssert (.iface 3 v) 20 3 false).run Try.prog w = .ok v w := by kernel_rfl

/-- Behind a push: the heap's variable is block p, its numbers are in block g. -/
def Pushed (base p : Nat) (T : TypeId) (L : List Int) (w : World) (e : Ending) (w' : World) : Prop :=
  e = .returned (.tuple #[]) ∧ ∃ g m c, p ≠ g ∧ L.length = m ∧ Blk w' p T #[.slice (some ⟨g, 0, none⟩) m c] ∧ Row w' base g m c L ∧ Below base w w'

theorem pushed_of {base p m c g9 c9 q : Nat} {A : Option Addr} {x : Int} {T TI : TypeId} {L : List Int} {w w9 : World} (hp : Blk w p T #[.slice A m c]) (h : w.ownsRow base 3 1 (.slice A m c) m (L.map (Value.int .i64))) (hbp : base ≤ p) (hpo : (Value.slice A m c).ownBlock ≠ some p)
    (own9 : w9.ownsRow base 3 1 (.slice (some ⟨g9, 0, none⟩) (m + 1) c9) (m + 1) (L.map (Value.int .i64) ++ [Value.int .i64 x])) (gr9 : ((w.alloc (.cells #[Value.int .i64 x] TI)).drewN q).grownBy w9 (Value.slice A m c).ownBlock)
    (at9 : (Value.slice (some ⟨g9, 0, none⟩) (m + 1) c9).ownBlock = (Value.slice A m c).ownBlock ∨ (Value.slice (some ⟨g9, 0, none⟩) (m + 1) c9).ownBlock = some ((w.alloc (.cells #[Value.int .i64 x] TI)).drewN q).heap.size) :
    Blk w9 p T #[.slice A m c] ∧ Pushed base p T (L ++ [x]) w (.returned (.tuple #[])) (w9.setCell ⟨p, 0, none⟩ (.slice (some ⟨g9, 0, none⟩) (m + 1) c9)) := by
  have hlt := hp.lt
  have hpg : p ≠ g9 := by
    rcases at9 with e | e
    · intro e2; subst e2; exact hpo e.symm
    · simp [Value.ownBlock] at e; omega
  have hB : Blk w9 p T #[.slice A m c] := ((hp.alloc _).drewN q).grown gr9 (fun e => hpo e.symm)
  have hlen : L.length = m := by have := h.1; rw [List.length_map] at this; omega
  have hb9 : Below base w w9 := Below.own (below_drewN ((Below.refl base w).alloc (by omega) _) q) gr9 ((h.alloc _)) (Nat.le_refl _) (by show base ≤ (w.alloc _).heap.size; simp; omega)
  refine ⟨hB, rfl, g9, m + 1, c9, hpg, by simp [hlen], hB.set_ 0 _, ?_, hb9.setCell hbp _⟩
  have own10 := own9.kept (w' := w9.setCell ⟨p, 0, none⟩ (.slice (some ⟨g9, 0, none⟩) (m + 1) c9)) (row := some p) ⟨rfl, rfl, rfl, by simp, fun k _ hk => heap_setCell_other w9 ⟨p, 0, none⟩ k _ (fun e => hk (by simp [e]))⟩ (.inr (by simp [Value.ownBlock]; exact fun e => hpg e.symm))
  rw [ints_snoc] at own10
  exact own10

set_option maxHeartbeats 2000000 in
set_option maxRecDepth 100000 in
theorem push_m (base p m c : Nat) (A : Option Addr) (x : Int) (T : TypeId) (L : List Int) (w : World) (hp : Blk w p T #[.slice A m c]) (h : w.ownsRow base 3 1 (.slice A m c) m (L.map (Value.int .i64))) (hbp : base ≤ p) (hpo : (Value.slice A m c).ownBlock ≠ some p) (hm : m ≤ 1000) :
    Calls Try.prog 154 #[.pointer (some ⟨p, 0, none⟩), .iface 3 (.int .i64 x)] w (Pushed base p T (L ++ [x]) w) := by
  obtain ⟨i1, hi1, hy0, hy1, hy2⟩ := info_parts' int_info
  have hU := Try.underlying134
  have cp := hp.cell0
  have fp := hp.frozen 0
  have hpl := hp.lt
  have Hp0 := hide hp
  have H := hide h
  have Rdx := hide ((Rd.one w 3 (Value.int .i64 x)).drewN 1)
  have Hpo := hide hpo
  have has := as_int (.int .i64 x)
  clear hp h hpo
  go_enter Try.func154, Try.ntmps154
  go_wp2_with fail
  go_region_law (first
    | (refine step_append_rd _ rfl (.tmp 7) (.tmp 10) _ rfl base 3 i1 _ 1 8 hU hi1 hy0 hy1 hy2 rfl (by omega) (.slice A m c) m (L.map (Value.int .i64)) rfl (by exact (H.out.alloc _).drew) (w.heap.size + 1) (some ⟨w.heap.size, 0, none⟩) 1 _ [Value.int .i64 x] rfl (by exact Rdx.out) (one_ints [x]) (by unfold maxLen; omega) (by omega) (by simp; omega) ?_
       intro v9 w9 own9 gr9 at9
       obtain ⟨g9, c9, rfl, hg9, hl9⟩ := own9.form (Nat.succ_pos m)
       obtain ⟨hB, hP⟩ := pushed_of (q := 1) Hp0.out H.out hbp Hpo.out own9 gr9 at9
       have cp9 := hB.cell0
       have fp9 := hB.frozen 0
       have HP := hide hP
       clear own9 gr9 at9 hP)
    | fail)
  all_goals
    go_wp2_with fail
    go_end0
    exact HP.out
end Go.Proofs.Ytimpmlmkhjeajaa

/- container/heap over the heap of a box: heap.Push, heap.Pop. -/
set_option linter.unusedVariables false
set_option linter.unusedSimpArgs false
namespace Go.Proofs.Ytimpmlmkhjeajaa
open Go.RowKit Go.BigFrame

/-- A heap of the numbers S: its variable is block p. -/
def HeapOf (base p : Nat) (T : TypeId) (S : List Int) (w w' : World) : Prop :=
  ∃ g m c M, p ≠ g ∧ M.Perm S ∧ M.length = m ∧ Hp M ∧ Blk w' p T #[.slice (some ⟨g, 0, none⟩) m c] ∧ Row w' base g m c M ∧ Below base w w'
def PushedH (base p : Nat) (T : TypeId) (S : List Int) (w : World) (e : Ending) (w' : World) : Prop := e = .returned (.tuple #[]) ∧ HeapOf base p T S w w'

theorem grown_below {base g : Nat} {a b : World} (h : a.grownBy b (some g)) (hg : base ≤ g) (hs : base ≤ a.heap.size) : Below base a b := ⟨h.os, h.tape, h.output, h.size, fun k hk => h.block k (by omega) (fun e => by injection e with e; omega)⟩

set_option maxHeartbeats 1000000 in
set_option maxRecDepth 100000 in
theorem heap_push (base p m c : Nat) (A : Option Addr) (x : Int) (T : TypeId) (L : List Int) (w : World) (hp : Blk w p T #[.slice A m c]) (h : w.ownsRow base 3 1 (.slice A m c) m (L.map (Value.int .i64))) (hbp : base ≤ p) (hpo : (Value.slice A m c).ownBlock ≠ some p) (hm : m ≤ 100) (hh : Hp L) :
    Calls Try.prog 83 #[.iface 106 (.pointer (some ⟨p, 0, none⟩)), .iface 3 (.int .i64 x)] w (PushedH base p T (L ++ [x]) w) := by
  have hl : L.length = m := by have := h.1; rw [List.length_map] at this; omega
  have Hp0 := hide hp
  have H := hide h
  have Hpo := hide hpo
  have HH := hide hh
  have Hl := hide hl
  have hbs : base ≤ w.heap.size := by have := hp.lt; omega
  clear hp h hpo hh hl
  go_enter Try.func83, Try.ntmps83
  go_wp2_with fail
  refine (push_m base p m c A x T L w Hp0.out H.out hbp Hpo.out (by omega)).mono ?_
  rintro e w6 ⟨rfl, g6, m6, c6, hpg, hlen6, hB6, hR6, hb6⟩
  obtain rfl : m6 = m + 1 := by rw [← hlen6, List.length_append, Hl.out]; rfl
  have HB6 := hide hB6
  have HR6 := hide hR6
  have Hb6 := hide hb6
  have hml := m_len 268 p _ w6 hB6.cell0
  clear hlen6 hB6 hR6 hb6
  go_wp2_with fail
  refine (h_len _ (m + 1) c6 w6 (by unfold maxLen; omega)).mono ?_
  rintro e w' ⟨rfl, rfl⟩
  go_wp2_with fail
  refine (up_any base p g6 (m + 1) c6 m _ T (L ++ [x]) w6 (by first | rfl | omega) HB6.out hpg HR6.out (by omega) (by have h1 := UpI.start HH.out x; rw [Hl.out] at h1; exact h1) (by omega)).mono ?_
  rintro e w7 ⟨rfl, M, hH, hP, hR7, hg7⟩
  have HH7 := hide hH
  have HP7 := hide hP
  have HR7 := hide hR7
  have Hg7 := hide hg7
  clear hH hP hR7 hg7
  go_wp2_with fail
  go_end0
  exact ⟨rfl, g6, m + 1, c6, M, hpg, HP7.out, HR7.out.len, HH7.out, HB6.out.grown Hg7.out (by simp [hpg]), HR7.out, Hb6.out.trans (grown_below Hg7.out (HR6.out.lt g6 rfl).1 (Nat.le_trans hbs Hb6.out.size))⟩

set_option maxHeartbeats 1000000 in
set_option maxRecDepth 100000 in
theorem pop_m (base p g n c : Nat) (x : Int) (T : TypeId) (M : List Int) (w : World) (hp : Blk w p T #[.slice (some ⟨g, 0, none⟩) (n + 1) c]) (h : Row w base g (n + 1) c M) (hx : M[n]? = some x) (hm : n ≤ 1000) :
    Calls Try.prog 153 #[.pointer (some ⟨p, 0, none⟩)] w fun e w' => e = .returned (.iface 3 (.int .i64 x)) ∧ w' = w.setCell ⟨p, 0, none⟩ (.slice (some ⟨g, 0, none⟩) n c) := by
  obtain ⟨i1, hi1, hy0, hy1, hy2⟩ := info_parts' int_info
  have hU := Try.underlying134
  have cp := hp.cell0
  have fp := hp.frozen 0
  have cx := h.cell hx
  have hnc := (own_cap h).1
  have hsl : ∀ W : World, (Instr.slice 134 (.slice (some ⟨g, 0, none⟩) (n + 1) c) none (some (.int .i64 (n : Int))) none).run Try.prog W = .ok (.slice (some ⟨g, 0, none⟩) n c) W := fun W => slice_to_run hU hi1 (some ⟨g, 0, none⟩) (n + 1) c n (n : Int) rfl (by omega) hnc W
  clear hp h hx hU hi1 hy0 hy1 hy2
  go_enter Try.func153, Try.ntmps153
  go_wp2_with fail
  go_ret
  exact ⟨rfl, rfl⟩

/-- Only the blocks p and g have turned. -/
structure Two (p g : Nat) (w w' : World) : Prop where
  os : w'.os = w.os
  tape : w'.tape = w.tape
  output : w'.output = w.output
  size : w.heap.size ≤ w'.heap.size
  block : ∀ k, k < w.heap.size → k ≠ p → k ≠ g → w'.heap[k]? = w.heap[k]?
theorem Two.below {p g base : Nat} {w w' : World} (h : Two p g w w') (hp : base ≤ p) (hg : base ≤ g) (hs : base ≤ w.heap.size) : Below base w w' := ⟨h.os, h.tape, h.output, h.size, fun k hk => h.block k (by omega) (by omega) (by omega)⟩
theorem Two.own {p g base n : Nat} {w w' : World} {e : TypeId} {size : Nat} {v : Value} {xs : List Value} (h : Two p g w w') (ho : w.ownsRow base e size v n xs) (hp : v.ownBlock ≠ some p) (hg : v.ownBlock ≠ some g) : w'.ownsRow base e size v n xs := by
  refine ⟨ho.1, ?_⟩
  rcases ho.2 with h1 | ⟨q, cap, cur, e1, e2, e3, e4⟩
  · exact .inl h1
  · have hlt := (ho.lt q (by rw [e1]; rfl)).2
    refine .inr ⟨q, cap, cur, e1, e2, (h.block q hlt (fun e => hp (by rw [e1, e]; rfl)) (fun e => hg (by rw [e1, e]; rfl))).trans e3, e4⟩
/-- Behind a pop. -/
def Popped (base p g n c : Nat) (T : TypeId) (L : List Int) (w : World) (e : Ending) (w' : World) : Prop :=
  ∃ x M, e = .returned (.iface 3 (.int .i64 x)) ∧ Took L M x ∧ Blk w' p T #[.slice (some ⟨g, 0, none⟩) n c] ∧ Row w' base g n c M ∧ Two p g w w'

theorem popped_of {base p g n c : Nat} {x : Int} {T : TypeId} {L M : List Int} {w w7 : World} (hp : Blk w7 p T #[.slice (some ⟨g, 0, none⟩) (n + 1) c]) (hpg : p ≠ g) (hT : Took L (M.take n) x) (hR : Row w7 base g (n + 1) c M) (hg : w.grownBy w7 (some g)) :
    Popped base p g n c T L w (.returned (.iface 3 (.int .i64 x))) (w7.setCell ⟨p, 0, none⟩ (.slice (some ⟨g, 0, none⟩) n c)) := by
  have gr : w7.grownBy (w7.setCell ⟨p, 0, none⟩ (.slice (some ⟨g, 0, none⟩) n c)) (some p) := ⟨rfl, rfl, rfl, by simp, fun k _ hk => heap_setCell_other w7 ⟨p, 0, none⟩ k _ (fun e => hk (by simp [e]))⟩
  refine ⟨x, M.take n, rfl, hT, hp.set_ 0 _, (ints_take hR (by omega)).kept gr (.inr (by simp [Value.ownBlock]; exact fun e => hpg e.symm)), ?_⟩
  have hs := hg.size
  exact ⟨gr.os.trans hg.os, gr.tape.trans hg.tape, gr.output.trans hg.output, Nat.le_trans hg.size gr.size, fun k hk h1 h2 => (gr.block k (by omega) (fun e => h1 (by injection e))).trans (hg.block k hk (fun e => h2 (by injection e)))⟩

set_option maxHeartbeats 1000000 in
set_option maxRecDepth 100000 in
theorem heap_pop (base p g n c : Nat) (T : TypeId) (L : List Int) (w : World) (hp : Blk w p T #[.slice (some ⟨g, 0, none⟩) (n + 1) c]) (hpg : p ≠ g) (h : Row w base g (n + 1) c L) (hh : Hp L) (hm : n ≤ 100) :
    Calls Try.prog 116 #[.iface 106 (.pointer (some ⟨p, 0, none⟩))] w (Popped base p g n c T L w) := by
  have hl := h.len
  obtain ⟨x, hx⟩ : ∃ x, L[0]? = some x := ⟨L[0]'(by omega), List.getElem?_eq_getElem _⟩
  obtain ⟨y, hy⟩ : ∃ y, L[n]? = some y := ⟨L[n]'(by omega), List.getElem?_eq_getElem _⟩
  have Hp0 := hide hp
  have H := hide h
  have HH := hide hh
  have Hl := hide hl
  have Hx := hide hx
  have Hy := hide hy
  have HD := hide (DnI.start hh hl hx hy)
  have hml := m_len 268 p _ w hp.cell0
  have hms := m_swap 268 p _ w hp.cell0
  clear hp h hh hl hx hy
  go_enter Try.func116, Try.ntmps116
  go_wp2_with fail
  refine (h_len _ (n + 1) c w (by unfold maxLen; omega)).mono ?_
  rintro e w' ⟨rfl, rfl⟩
  go_wp2_with fail
  refine (h_swap_t base g (n + 1) c 0 n _ _ x y L w H.out Hx.out Hy.out (by omega) (by first | rfl | omega) (by first | rfl | omega)).mono ?_
  rintro e w6 ⟨rfl, hR6, hg6⟩
  have HR6 := hide hR6
  have Hg6 := hide hg6
  have HB6 := hide (Hp0.out.grown hg6 (by simp [hpg]))
  clear hR6 hg6
  go_wp2_with fail
  refine (down_any base p g (n + 1) c n _ T (sw L 0 n x y) w6 (by first | rfl | omega) HB6.out hpg HR6.out (by omega) HD.out (by omega)).mono ?_
  rintro e w7 ⟨t, M, rfl, hpn, hds, hR7, hg7⟩
  obtain ⟨hMx, hT⟩ := took_of HH.out Hl.out Hx.out Hy.out hds hpn
  have HMx := hide hMx
  have HT := hide hT
  have HR7 := hide hR7
  have HB7 := hide (HB6.out.grown hg7 (by simp [hpg]))
  have Hg7 := hide (Hg6.out.trans hg7)
  clear hpn hds hR7 hg7 hMx hT
  go_wp2_with fail
  refine (pop_m base p g n c x T M w7 HB7.out HR7.out HMx.out (by omega)).mono ?_
  rintro e w8 ⟨rfl, rfl⟩
  go_wp2_with fail
  go_ret
  exact popped_of HB7.out hpg HT.out HR7.out Hg7.out
end Go.Proofs.Ytimpmlmkhjeajaa

/- The heap of a box: slices.Clone, slices.Contains, newBoxHeap, takeGreatest; BoxPut. -/
set_option linter.unusedVariables false
set_option linter.unusedSimpArgs false
namespace Go.Proofs.Ytimpmlmkhjeajaa
open Go.RowKit Go.BigFrame

set_option maxHeartbeats 1000000 in
theorem cloneI (A : Option Addr) (n c : Nat) (F : List Int) (w : World) (hF : Ints w w.heap.size A n F) (hn2 : n ≤ 1000000) :
    Calls Try.prog 86 #[.slice A n c] w fun e w' => Own1I w F e w' := by
  obtain ⟨i1, hi1, hy0, hy1, hy2⟩ := info_parts' int_info
  have hU := Try.underlying47
  have q24 : ∀ (w : World) (a : Option Addr) (n c n' c' : Nat), (binOp .eql 47 (.slice a n c) (.slice none n' c')).run Try.prog w = .ok (.bool a.isNone) w := fun w a n c n' c' => Lib.run_eql_slice_nil w _ _ a n c n' c' hU
  have HF := hide hF
  have b1 : 0 + n ≤ maxLen := by unfold maxLen; omega
  have b2 : (0 + n) * 8 ≤ 140737488355328 := by omega
  rcases A with _ | ad
  · have h0 : n = 0 := by
      rcases Nat.eq_zero_or_pos n with h | h
      · exact h
      · obtain ⟨_, _, e, _⟩ := hF.2 h; cases e
    have hFe : Hid (F = []) := List.eq_nil_of_length_eq_zero (by have := hF.1; omega)
    clear hF h0 b1 b2
    go_enter Try.func86, Try.ntmps86
    go_wp2_with fail
    go_ret
    exact ⟨_, rfl, by rw [hFe.out]; exact OwnI.nil _ _, Below.refl _ _⟩
  · have own0 := hide (World.ownsRow_lit (size := 1) (e := 3) (base := w.heap.size) w #[] 0 (Nat.le_refl _) (Nat.zero_le _) rfl)
    have src := hide (hF.rd.alloc (Nat.le_refl _) (.cells #[] 3))
    clear hF
    go_enter Try.func86, Try.ntmps86
    go_wp2_with (
      (at_builtin
       refine wpList_append_rd _ rfl (.tmp 5) (.tmp 6) _ rfl w.heap.size 3 i1 _ 1 8 hU hi1 hy0 hy1 hy2 rfl (by omega) _ 0 [] rfl own0.out w.heap.size (some ad) n _ (F.map (Value.int .i64)) rfl src.out (one_ints _) b1 b2 (by simp) ?_
       intro v4 w4 own4 gr4 at4
       have hb4 : Below w.heap.size w w4 := Below.own ((Below.refl _ _).alloc (Nat.le_refl _) _) gr4 own0.out (Nat.le_refl _) (by simp)
       clear gr4 at4))
    go_ret
    exact ⟨v4, rfl, OwnI.mk' own4 (by rw [List.nil_append]), hb4⟩

/-- slices.Index: whether it is there. -/
def Idx (t : Bool) (w : World) (e : Ending) (w' : World) : Prop := w = w' ∧ ((t = true ∧ ∃ k : Nat, e = .returned (.int .i64 (k : Int))) ∨ (t = false ∧ e = .returned (.int .i64 (-1))))
set_option maxHeartbeats 1000000 in
theorem idxI (A : Option Addr) (n c : Nat) (L : List Int) (i : Int) (t : Bool) (w : World) (hL : Ints w w.heap.size A n L) (hn : n ≤ maxLen) (ht : decide (i ∈ L) = t) :
    Calls Try.prog 113 #[.slice A n c, .int .i64 i] w (Idx t w) := by
  unfold maxLen at hn
  have hl := hide hL.1
  have hL := hide hL
  have Ht := hide ht
  clear ht
  go_enter Try.func113, Try.ntmps113
  go_wp2_with fail
  go_loop [8] (fun i' => ∃ k : Nat, k ≤ n ∧ i' = .int .i64 k ∧ Hid (i ∉ L.take k)) (fun i' => n - (intOf i').toNat)
  case atStart => exact ⟨0, Nat.zero_le _, rfl, by show i ∉ _; simp⟩
  case round =>
    obtain ⟨k, hk, rfl, hu⟩ := hrel
    by_cases hlt : k < n
    · obtain ⟨a, ha⟩ : ∃ a, L[k]? = some a := ⟨L[k]'(by have := hl.out; omega), List.getElem?_eq_getElem _⟩
      obtain ⟨g, off, rfl, hg, hc0⟩ := hL.out.at' ha
      by_cases e : i = a
      · subst e
        have H : Hid (t = true) := by show t = true; rw [← Ht.out]; simpa using List.mem_of_getElem? ha
        clear ha
        go_wp2_with fail
        go_ret
        exact ⟨rfl, .inl ⟨H.out, _, rfl⟩⟩
      · have hne : (i == a) = false := by simpa using e
        have H : Hid (i ∉ L.take (k + 1)) := by
          show i ∉ _
          rw [List.take_add_one, ha]
          simp only [List.mem_append, not_or]
          exact ⟨hu.out, by simpa using e⟩
        clear ha e
        go_wp2_with fail
        go_round
        case rel => exact ⟨k + 1, by omega, by go_num, H⟩
        case measure => simp [intOf]; omega
    · have H : Hid (t = false) := by
        show t = false
        have h1 := hu.out
        rw [List.take_of_length_le (by have := hl.out; omega)] at h1
        rw [← Ht.out]; simpa using h1
      go_wp2_with fail
      go_ret
      exact ⟨rfl, .inr ⟨H.out, rfl⟩⟩
theorem hasI (A : Option Addr) (n c : Nat) (L : List Int) (i : Int) (t : Bool) (w : World) (hL : Ints w w.heap.size A n L) (hn : n ≤ maxLen) (ht : decide (i ∈ L) = t) :
    Calls Try.prog 82 #[.slice A n c, .int .i64 i] w fun e w' => e = .returned (.bool t) ∧ w = w' := by
  have HL := hide hL
  have HN := hide hn
  have Ht := hide ht
  clear hL hn ht
  go_enter Try.func82, Try.ntmps82
  go_wp2_with fail
  refine (idxI A n c L i t _ HL.out HN.out Ht.out).mono ?_
  rintro e w' ⟨rfl, ⟨rfl, k, rfl⟩ | ⟨rfl, rfl⟩⟩
  · go_wp2_with fail
    go_ret
    exact ⟨ret_bool (by simp), rfl⟩
  · go_wp2_with fail
    go_ret
    exact ⟨rfl, rfl⟩

/-- A new heap. -/
def NewH (base : Nat) (L : List Int) (w : World) (e : Ending) (w' : World) : Prop :=
  ∃ p A m c, e = .returned (.pointer (some ⟨p, 0, none⟩)) ∧ base ≤ p ∧ m ≤ 100 ∧ Blk w' p 134 #[.slice A m c] ∧ w'.ownsRow base 3 1 (.slice A m c) m (L.map (Value.int .i64)) ∧ (Value.slice A m c).ownBlock ≠ some p ∧ Below base w w'
set_option maxHeartbeats 1000000 in
theorem new_any (A : Option Addr) (n c : Nat) (L : List Int) (w : World) (hL : Ints w w.heap.size A n L) (hn : n ≤ 100) :
    Calls Try.prog 81 #[.slice A n c] w (NewH w.heap.size L w) := by
  have hl := hide hL.1
  have HL := hide hL
  clear hL
  go_enter Try.func81, Try.ntmps81
  go_wp2_with fail
  refine (cloneI A n c L w HL.out (by omega)).mono ?_
  rintro e w6 ⟨v, rfl, ⟨A6, n6, c6, rfl, own6⟩, hb6⟩
  have Own6 := hide own6
  have Hb6 := hide hb6
  have hs6 := hb6.size
  clear own6 hb6
  go_wp2_with fail
  go_ret
  have hlt : ∀ q, (Value.slice A6 n6 c6).ownBlock = some q → q < w6.heap.size := fun q hq => (Own6.out.lt q hq).2
  have hn6 : n6 = n := by have h1 := Own6.out.1; have h2 := hl.out; rw [List.length_map] at h1; omega
  exact ⟨w6.heap.size, A6, n6, c6, rfl, hs6, by omega, Blk.new _ _ _, Own6.out.alloc _, fun e => by have := hlt _ e; omega, Hb6.out.alloc hs6 _⟩
end Go.Proofs.Ytimpmlmkhjeajaa

/- takeGreatest, BoxPut of the program. -/
set_option linter.unusedVariables false
set_option linter.unusedSimpArgs false
namespace Go.Proofs.Ytimpmlmkhjeajaa
open Go.RowKit Go.BigFrame

theorem take_step {base p g r c k c4 : Nat} {A4 : Option Addr} {x : Int} {T TI : TypeId} {ids R : List Int} {w w6 w9 : World} {v9 : Value} (hbs : base ≤ w.heap.size) (hB : Blk w6 p T #[.slice (some ⟨g, 0, none⟩) r c]) (hR : Row w6 base g r c R) (ho : w6.ownsRow base 3 1 (.slice A4 k c4) k (ids.map (Value.int .i64)))
    (hf : (Value.slice A4 k c4).ownBlock ≠ some p ∧ (Value.slice A4 k c4).ownBlock ≠ some g) (hb : Below base w w6) (own9 : w9.ownsRow base 3 1 v9 (k + 1) (ids.map (Value.int .i64) ++ [Value.int .i64 x])) (gr9 : (w6.alloc (.cells #[Value.int .i64 x] TI)).grownBy w9 (Value.slice A4 k c4).ownBlock)
    (at9 : v9.ownBlock = (Value.slice A4 k c4).ownBlock ∨ v9.ownBlock = some (w6.alloc (.cells #[Value.int .i64 x] TI)).heap.size) :
    ∃ A9 c9, v9 = .slice A9 (k + 1) c9 ∧ Blk w9 p T #[.slice (some ⟨g, 0, none⟩) r c] ∧ Row w9 base g r c R ∧ w9.ownsRow base 3 1 (.slice A9 (k + 1) c9) (k + 1) ((ids ++ [x]).map (Value.int .i64)) ∧ ((Value.slice A9 (k + 1) c9).ownBlock ≠ some p ∧ (Value.slice A9 (k + 1) c9).ownBlock ≠ some g) ∧ Below base w w9 := by
  have hs := hb.size
  have hpl := hB.lt
  have hgl := (hR.lt g rfl).2
  obtain ⟨A9, c9, rfl⟩ := own_slice own9
  refine ⟨A9, c9, rfl, (hB.alloc _).grown gr9 (fun e => hf.1 e.symm), World.ownsRow.kept (World.ownsRow.alloc hR _) gr9 (.inr (fun e => hf.2 e.symm)), ?_, ?_, Below.own (hb.alloc (by omega) _) gr9 (ho.alloc _) (Nat.le_refl _) (by simp; omega)⟩
  · rw [← ints_snoc]; exact own9
  · rcases at9 with e | e
    · rw [e]; exact hf
    · rw [e]; simp; omega

set_option maxHeartbeats 2000000 in
set_option maxRecDepth 100000 in
theorem take_any (base p : Nat) (S : List Int) (w0 w : World) (hH : HeapOf base p 134 S w0 w) (hS : Desc S) (hl : S.length ≤ 50) (hbp : base ≤ p) :
    Calls Try.prog 84 #[.pointer (some ⟨p, 0, none⟩), .int .i64 6] w fun e w' => ∃ v, e = .returned v ∧ OwnI base w' v (S.take 6) ∧ Below base w w' := by
  obtain ⟨g, m, c, M, hpg, hP, hml, hh, hB, hR, hb⟩ := hH
  obtain ⟨i1, hi1, hy0, hy1, hy2⟩ := info_parts' int_info
  have hU := Try.underlying47
  have hbs : base ≤ w.heap.size := by have := hB.lt; omega
  have hbg : base ≤ g := (hR.lt g rfl).1
  have HS := hide hS
  have HB := hide hB
  have HR := hide hR
  have HH := hide hh
  have HT := hide (Tk.start hP)
  have hm : m ≤ 50 := by have := hP.length_eq; omega
  clear hS hB hR hh hP hb hml
  go_enter Try.func84, Try.ntmps84
  go_wp2_with fail
  go_loopg [5] m (fun b u wr => ∃ (r k : Nat) (A4 : Option Addr) (c4 : Nat) (ids R : List Int), r ≤ b ∧ r ≤ 50 ∧ k ≤ 6 ∧ u = .slice A4 k c4 ∧ Hid (Tk S ids R) ∧ Hid (Hp R) ∧ Hid (Blk wr p 134 #[.slice (some ⟨g, 0, none⟩) r c]) ∧ Hid (Row wr base g r c R) ∧ Hid (wr.ownsRow base 3 1 (.slice A4 k c4) k (ids.map (Value.int .i64))) ∧ Hid ((Value.slice A4 k c4).ownBlock ≠ some p ∧ (Value.slice A4 k c4).ownBlock ≠ some g) ∧ Hid (Below base w wr))
  case atStart => exact ⟨m, 0, none, 0, [], M, Nat.le_refl _, hm, by omega, rfl, HT.out, HH.out, HB.out, HR.out, World.ownsRow_nil _ _ _ _, ⟨by simp [Value.ownBlock], by simp [Value.ownBlock]⟩, Below.refl _ _⟩
  case round =>
    obtain ⟨r, k, A4, c4, ids, R, hrb, hr, hk, rfl, ht, hh, hB, hR, hown, hfar, hbr⟩ := hrel
    have cp := hB.out.cell0
    have hkl : Hid (ids.length = k) := by have h1 := hown.out.1; rw [List.length_map] at h1; show _ = _; omega
    have hRl := hide hR.out.len
    by_cases hk6 : k < 6
    · rcases r with _ | r
      · have HE : Hid (ids = S.take 6) := by
          have h1 := ht.out.take HS.out
          have h2 := ht.out.len
          have h3 := hRl.out
          show ids = _
          rw [List.take_of_length_le (by have := hkl.out; omega)]
          rw [List.take_of_length_le (by omega)] at h1
          exact h1
        go_wp2_with fail
        refine (h_len _ 0 c wr (Nat.zero_le _)).mono ?_
        rintro e w' ⟨rfl, rfl⟩
        go_wp2_with fail
        go_ret
        exact ⟨_, rfl, ⟨_, _, _, rfl, by rw [← HE.out]; exact hown.out⟩, hbr.out⟩
      · go_wp2_with fail
        refine (h_len _ (r + 1) c wr (by unfold maxLen; omega)).mono ?_
        rintro e w' ⟨rfl, rfl⟩
        have hr1 : (0 : Int) < (r : Int) + 1 := by omega
        go_wp2_with fail
        refine (heap_pop base p g r c _ R wr hB.out hpg hR.out hh.out (by omega)).mono ?_
        rintro e w6 ⟨x, R', rfl, hT, hB6, hR6, h2⟩
        have HT6 := hide (ht.out.step HS.out hT)
        have HH6 := hide hT.heap
        have HB6 := hide hB6
        have HR6 := hide hR6
        have Own6 := hide (h2.own hown.out hfar.out.1 hfar.out.2)
        have hbsr := hbr.out.size
        have Hb6 : Hid (Below base w w6) := hbr.out.trans (h2.below hbp hbg (by omega))
        have hs6 := Hb6.out.size
        have has := as_int (.int .i64 x)
        clear hT hB6 hR6 h2
        go_wp2_with (
          (at_builtin
           refine wpList_append_rd _ rfl (.tmp 17) (.tmp 22) _ rfl base 3 i1 _ 1 8 hU hi1 hy0 hy1 hy2 rfl (by omega) (.slice A4 k c4) k (ids.map (Value.int .i64)) rfl (Own6.out.alloc _) (w6.heap.size + 1) (some ⟨w6.heap.size, 0, none⟩) 1 _ [Value.int .i64 x] rfl (Rd.one _ _ _) (one_ints [x]) (by unfold maxLen; omega) (by omega) (by simp; omega) ?_
           intro v9 w9 own9 gr9 at9
           obtain ⟨A9, c9, rfl, hB9, hR9, ho9, hf9, hb9⟩ := take_step hbs HB6.out HR6.out Own6.out hfar.out Hb6.out own9 gr9 at9
           have HB9 := hide hB9
           have HR9 := hide hR9
           have Own9 := hide ho9
           have HF9 := hide hf9
           have Hb9 := hide hb9
           clear gr9 at9 own9 hB9 hR9 ho9 hf9 hb9))
        go_roundg r
        case measure => omega
        case rel => exact ⟨r, k + 1, A9, c9, _, _, Nat.le_refl _, by omega, by omega, rfl, HT6.out, HH6.out, HB9.out, HR9.out, Own9.out, HF9.out, Hb9.out⟩
    · have HE : Hid (ids = S.take 6) := by
        have h1 := ht.out.take HS.out
        rw [show ids.length = 6 by have := hkl.out; omega] at h1
        exact h1
      have hk6' : ¬ ((k : Int) < 6) := by omega
      go_wp2_with fail
      go_ret
      exact ⟨_, rfl, ⟨_, _, _, rfl, by rw [← HE.out]; exact hown.out⟩, hbr.out⟩

set_option maxHeartbeats 2000000 in
set_option maxRecDepth 100000 in
theorem i_BoxPut (A : Option Addr) (n c : Nat) (L : List Int) (id : Int) (w : World) (hX : Ints w w.heap.size A n L) (hn : n ≤ maxLen) :
    Calls Try.prog 33 #[.slice A n c, .int .i64 id] w fun e w' => Own2I w (bPutM L id) e w' := by
  have hl := hide hX.1
  have HX := hide hX
  have HN := hide hn
  clear hX hn
  go_enter Try.func33, Try.ntmps33
  go_wp2_with fail
  refine (i_ids A n c L _ HX.out HN.out).mono ?_
  rintro e w1 ⟨rfl, hb1⟩
  have Hb1 := hide hb1
  have HX1 := hide (HX.out.on hb1)
  have hs1 := hb1.size
  clear hb1
  cases h1 : idsB L
  · have H : Hid (bPutM L id = none) := bPutM_1 h1
    clear h1
    go_wp2_with fail
    go_ret2
    exact ⟨_, by rw [H.out]; rfl, by rw [H.out]; exact OwnI.nil _ _, Hb1.out⟩
  have hn6 : n ≤ 6 := by have h := idsB_6 h1; have := hl.out; omega
  go_wp2_with fail
  refine (p_id id _).mono ?_
  rintro e w' ⟨rfl, rfl⟩
  cases h2 : inR id
  · have H : Hid (bPutM L id = none) := bPutM_2 h2
    clear h1 h2
    go_wp2_with fail
    go_ret2
    exact ⟨_, by rw [H.out]; rfl, by rw [H.out]; exact OwnI.nil _ _, Hb1.out⟩
  have H : Hid (bPutM L id = some (bput L id)) := bPutM_t h1 h2
  have HD := hide (idsB_desc h1)
  clear h1 h2
  go_wp2_with fail
  refine (new_any A n c L _ HX1.out (by omega)).mono ?_
  rintro e w3 ⟨p, A3, m3, c3, rfl, hbp, hm3, hB3, own3, hfar, hb3⟩
  have HB3 := hide hB3
  have Own3 := hide own3
  have Hfar := hide hfar
  have Hb3 := hide hb3
  have HX3 := hide (HX1.out.on hb3)
  have hs3 := hb3.size
  clear hB3 own3 hfar hb3
  have hput : bput L id = (insD id L).take 6 := bput_eq HD.out id
  have hlen := (insD_len id L).2
  have hlen6 : (insD id L).length ≤ 50 := by have := hl.out; omega
  have Hput := hide hput
  have HD2 := hide (insD_desc (id := id) HD.out)
  clear hput hlen
  cases hc : decide (id ∈ L)
  · have HC : Hid (decide (id ∈ L) = false) := hc
    have hnew := hide (insD_new HD.out (by simpa using hc))
    clear hc
    go_wp2_with fail
    refine (hasI A n c L id false _ HX3.out HN.out HC.out).mono ?_
    rintro e w' ⟨rfl, rfl⟩
    go_wp2_with fail
    refine (heap_push w1.heap.size p m3 c3 A3 id _ L w3 HB3.out Own3.out hbp Hfar.out hm3 (Hp.of_desc HD.out)).mono ?_
    rintro e w4 ⟨rfl, g, m, c', M, hpg, hP, hml, hh, hB4, hR4, hb4⟩
    have HO : Hid (HeapOf w1.heap.size p 134 (insD id L) w3 w4) := ⟨g, m, c', M, hpg, hP.trans hnew.out, hml, hh, hB4, hR4, hb4⟩
    have Hb4 := hide hb4
    clear hpg hP hml hh hB4 hR4 hb4
    go_wp2_with fail
    refine (take_any w1.heap.size p (insD id L) w3 w4 HO.out HD2.out hlen6 hbp).mono ?_
    rintro e w5 ⟨v, rfl, ⟨A5, n5, c5, rfl, own5⟩, hb5⟩
    have Own5 := hide own5
    have Hb5 := hide hb5
    clear own5 hb5
    go_wp2_with fail
    go_ret2
    exact ⟨_, by rw [H.out]; rfl, by rw [H.out, Hput.out]; exact ⟨_, _, _, rfl, own_base Own5.out hs1⟩, Hb1.out.trans ((Hb3.out.trans (Hb4.out.trans Hb5.out)).mono hs1)⟩
  · have HC : Hid (decide (id ∈ L) = true) := hc
    have hmem : id ∈ L := by simpa using hc
    have hold := hide (insD_old HD.out hmem)
    have hlen0 : 0 < L.length := List.length_pos_of_mem hmem
    have hO : HeapOf w1.heap.size p 134 (insD id L) w1 w3 := by
      have hm : L.length = m3 := by have h1 := Own3.out.1; rw [List.length_map] at h1; omega
      obtain ⟨g, c', hv, hg, hgl⟩ := Own3.out.form (by omega)
      have hB := HB3.out
      have hR := Own3.out
      rw [hv] at hB hR
      refine ⟨g, m3, c', L, ?_, by rw [← hold.out], hm, Hp.of_desc HD.out, hB, hR, Hb3.out⟩
      intro e
      exact Hfar.out (by rw [hv, e]; rfl)
    have HO := hide hO
    clear hc hmem hlen0 hO
    go_wp2_with fail
    refine (hasI A n c L id true _ HX3.out HN.out HC.out).mono ?_
    rintro e w' ⟨rfl, rfl⟩
    go_wp2_with fail
    refine (take_any w1.heap.size p (insD id L) w1 w3 HO.out HD2.out hlen6 hbp).mono ?_
    rintro e w5 ⟨v, rfl, ⟨A5, n5, c5, rfl, own5⟩, hb5⟩
    have Own5 := hide own5
    have Hb5 := hide hb5
    clear own5 hb5
    go_wp2_with fail
    go_ret2
    exact ⟨_, by rw [H.out]; rfl, by rw [H.out, Hput.out]; exact ⟨_, _, _, rfl, own_base Own5.out hs1⟩, Hb1.out.trans ((Hb3.out.trans Hb5.out).mono hs1)⟩
end Go.Proofs.Ytimpmlmkhjeajaa

/- boxPlace of the program: slices.BinarySearchFunc, strings.Compare; BoxesGet. -/
set_option linter.unusedVariables false
set_option linter.unusedSimpArgs false
namespace Go.Proofs.Ytimpmlmkhjeajaa
open Go.RowKit Go.BigFrame

/-- How two texts compare. -/
def cmpS (a b : ByteArray) : Int := Lib.compareBytes a.toList b.toList
theorem cmpS_data (a b : ByteArray) : Lib.compareBytes a.data.toList b.data.toList = cmpS a b := by unfold cmpS; rw [Lib.toList_data, Lib.toList_data]
theorem cmpL_lt : ∀ a b : List UInt8, (Lib.compareBytes a b < 0 ↔ Op.bytesLess a b = true) ∧ (Lib.compareBytes a b = 0 ↔ a = b) ∧ -1 ≤ Lib.compareBytes a b ∧ Lib.compareBytes a b ≤ 1
  | [], [] => by simp [Lib.compareBytes, Op.bytesLess]
  | [], _ :: _ => by simp [Lib.compareBytes, Op.bytesLess]
  | _ :: _, [] => by simp [Lib.compareBytes, Op.bytesLess]
  | a :: xs, b :: bs => by
    have ih := cmpL_lt xs bs
    unfold Lib.compareBytes
    by_cases h1 : a < b
    · have h2 : a ≠ b := fun e => by subst e; exact absurd h1 (by simp)
      simp [h1, Op.bytesLess, h2]
    · by_cases h2 : b < a
      · have h3 : a ≠ b := fun e => by subst e; exact absurd h2 (by simp)
        simp [h1, h2, Op.bytesLess, h3]
      · have h3 : a = b := UInt8.le_antisymm (UInt8.not_lt.1 h2) (UInt8.not_lt.1 h1)
        subst h3
        simp [Op.bytesLess, ih]
theorem cmpS_lt {a b : ByteArray} : cmpS a b < 0 ↔ blt a b = true := (cmpL_lt _ _).1
theorem cmpS_eq {a b : ByteArray} : cmpS a b = 0 ↔ a = b := ⟨fun h => toList_inj ((cmpL_lt _ _).2.1.1 h), fun h => (cmpL_lt _ _).2.1.2 (by rw [h])⟩
theorem cmpS_bd (a b : ByteArray) : -1 ≤ cmpS a b ∧ cmpS a b ≤ 1 := (cmpL_lt _ _).2.2

set_option maxHeartbeats 1000000 in
set_option maxRecDepth 100000 in
theorem cmp_in (a b : ByteArray) (w : World) :
    Calls Try.prog 129 #[.string a, .string b] w fun e w' => e = .returned (.int .i64 (cmpS a b)) ∧ w = w' := by
  go_enter Try.func129, Try.ntmps129
  go_wp2
  rw [run_callFunc_extern Try.func132 (by kernel_rfl) (by kernel_rfl) (by kernel_rfl) (e := Extern.BytealgCompare.compare) (by kernel_rfl), Lib.run_compareString, cmpS_data]
  simp only [Result.andThen]
  rw [Oper.upon_value]
  go_wp2
  go_ret
  exact ⟨rfl, rfl⟩
theorem cmp_any (a b : ByteArray) (w : World) :
    Calls Try.prog 119 #[.string a, .string b] w fun e w' => e = .returned (.int .i64 (cmpS a b)) ∧ w = w' := by
  go_enter Try.func119, Try.ntmps119
  go_wp2_with fail
  refine (cmp_in a b w).mono ?_
  rintro e w' ⟨rfl, rfl⟩
  go_wp2_with fail
  go_ret
  exact ⟨rfl, rfl⟩
theorem cmp_box (a s : ByteArray) (A : Option Addr) (n c : Nat) (w : World) :
    Calls Try.prog 118 #[.agg #[.string a, .slice A n c], .string s] w fun e w' => e = .returned (.int .i64 (cmpS a s)) ∧ Below w.heap.size w w' := by
  go_enter Try.func118, Try.ntmps118
  go_wp2_with fail
  refine (cmp_any a s _).mono ?_
  rintro e w' ⟨rfl, rfl⟩
  go_wp2_with fail
  go_ret
  exact ⟨rfl, (Below.refl _ _).alloc (Nat.le_refl _) _⟩

/-- Where it stands, whether it is there. -/
def Place (X : List Bx) (s : ByteArray) (w : World) (e : Ending) (w' : World) : Prop := e = .returned (.tuple #[.int .i64 (pos (bnms X) s : Nat), .bool (memB (bnms X) s)]) ∧ Below w.heap.size w w'

set_option maxHeartbeats 2000000 in
set_option maxRecDepth 100000 in
theorem bsf_any (A : Option Addr) (n c : Nat) (X : List Bx) (s : ByteArray) (w : World) (hX : Bxs w w.heap.size A n X) (ha : Asc (bnms X)) (hn : n ≤ 1000) :
    Calls Try.prog 117 #[.slice A n c, .string s, .func (.func 118) #[] #[]] w (Place X s w) := by
  have hl := hide (show (bnms X).length = n by rw [bnms_len]; exact hX.1)
  have hX := hide hX
  have ha := hide ha
  have hp : pos (bnms X) s ≤ n := by have := pos_le (bnms X) s; have := hl.out; omega
  go_enter Try.func117, Try.ntmps117
  go_wp2_with fail
  go_loopw [9, 10, 11] (fun i j _ wr => ∃ lo hi : Nat, i = .int .i64 lo ∧ j = .int .i64 hi ∧ lo ≤ pos (bnms X) s ∧ pos (bnms X) s ≤ hi ∧ hi ≤ n ∧ Hid (Below w.heap.size w wr)) (fun i j _ _ => (intOf j - intOf i).toNat)
  case atStart => exact ⟨0, n, rfl, rfl, Nat.zero_le _, hp, Nat.le_refl _, Below.refl _ _⟩
  case round =>
    obtain ⟨lo, hi, rfl, rfl, h1, h2, h3, hbr⟩ := hrel
    have hsz := hbr.out.size
    by_cases hlt : lo < hi
    · obtain ⟨t, ht⟩ : ∃ t, X[(lo + hi) / 2]? = some t := ⟨X[(lo + hi) / 2]'(by have := hX.out.1; omega), List.getElem?_eq_getElem _⟩
      obtain ⟨g, off, A', n', c', rfl, hg, hc0, hc1, hn', hm', hf⟩ := (hX.out.below hbr.out).at' ht
      have htn := bnms_at ht
      have hcb := cmpS_bd t.1 s
      clear hf
      cases hts : blt t.1 s
      · have hm : pos (bnms X) s ≤ (lo + hi) / 2 := by
          rcases Nat.lt_or_ge ((lo + hi) / 2) (pos (bnms X) s) with h | h
          · have := pos_lo h htn; rw [hts] at this; cases this
          · exact h
        have hnl : ¬ (cmpS t.1 s < 0) := fun h => by rw [cmpS_lt, hts] at h; cases h
        clear ht htn hts
        go_wp2_with fail
        refine (cmp_box t.1 s A' n' c' wr).mono ?_
        rintro e w6 ⟨rfl, hb6⟩
        have Hb6 := hide (hbr.out.trans (hb6.mono hsz))
        clear hb6
        go_wp2_with fail
        go_roundw
        case rel => exact ⟨lo, (lo + hi) / 2, rfl, by go_num, h1, hm, by omega, Hb6.out⟩
        case measure => simp [intOf]; omega
      · have hm : (lo + hi) / 2 + 1 ≤ pos (bnms X) s := by
          rcases Nat.lt_or_ge ((lo + hi) / 2) (pos (bnms X) s) with h | h
          · exact h
          · have := pos_hi ha.out h htn; rw [hts] at this; cases this
        have hnl : cmpS t.1 s < 0 := cmpS_lt.2 hts
        clear ht htn hts
        go_wp2_with fail
        refine (cmp_box t.1 s A' n' c' wr).mono ?_
        rintro e w6 ⟨rfl, hb6⟩
        have Hb6 := hide (hbr.out.trans (hb6.mono hsz))
        clear hb6
        go_wp2_with fail
        go_roundw
        case rel => exact ⟨(lo + hi) / 2 + 1, hi, by go_num, rfl, hm, h2, h3, Hb6.out⟩
        case measure => simp [intOf]; omega
    · obtain rfl : lo = pos (bnms X) s := by omega
      by_cases hlt2 : pos (bnms X) s < n
      · obtain ⟨t, ht⟩ : ∃ t, X[pos (bnms X) s]? = some t := ⟨X[pos (bnms X) s]'(by have := hX.out.1; omega), List.getElem?_eq_getElem _⟩
        obtain ⟨g, off, A', n', c', rfl, hg, hc0, hc1, hn', hm', hf⟩ := (hX.out.below hbr.out).at' ht
        have htn := bnms_at ht
        have hcb := cmpS_bd t.1 s
        clear hf
        by_cases e : t.1 = s
        · have H : Hid (memB (bnms X) s = true) := memB_t (e ▸ List.mem_of_getElem? htn)
          have hz : (cmpS t.1 s == 0) = true := by simpa using cmpS_eq.2 e
          clear ht htn e
          go_wp2_with fail
          refine (cmp_box t.1 s A' n' c' wr).mono ?_
          rintro e w6 ⟨rfl, hb6⟩
          have Hb6 := hide (hbr.out.trans (hb6.mono hsz))
          clear hb6
          go_wp2_with fail
          go_ret2
          exact ⟨by rw [H.out]; first | rfl | simp [hz], Hb6.out⟩
        · have H : Hid (memB (bnms X) s = false) := memB_f (fun h => by have := (mem_pos ha.out).1 h; rw [htn] at this; injection this with this; exact e this)
          have hz : (cmpS t.1 s == 0) = false := by simpa using fun h => e (cmpS_eq.1 h)
          clear ht htn e
          go_wp2_with fail
          refine (cmp_box t.1 s A' n' c' wr).mono ?_
          rintro e w6 ⟨rfl, hb6⟩
          have Hb6 := hide (hbr.out.trans (hb6.mono hsz))
          clear hb6
          go_wp2_with fail
          go_ret2
          exact ⟨by rw [H.out]; first | rfl | simp [hz], Hb6.out⟩
      · have H : Hid (memB (bnms X) s = false) := memB_f (fun h => by have := (mem_pos ha.out).1 h; rw [List.getElem?_eq_none (by have := hl.out; omega)] at this; cases this)
        go_wp2_with fail
        go_ret2
        exact ⟨by rw [H.out]; rfl, hbr.out⟩

theorem bplace_any (A : Option Addr) (n c : Nat) (X : List Bx) (s : ByteArray) (w : World) (hX : Bxs w w.heap.size A n X) (ha : Asc (bnms X)) (hn : n ≤ 1000) :
    Calls Try.prog 85 #[.slice A n c, .string s] w (Place X s w) := by
  have HX := hide hX
  have Ha := hide ha
  clear hX ha
  go_enter Try.func85, Try.ntmps85
  go_wp2_with fail
  refine (bsf_any A n c X s w HX.out Ha.out hn).mono ?_
  rintro e w6 ⟨rfl, hb6⟩
  have Hb6 := hide hb6
  clear hb6
  go_wp2_with fail
  go_ret2
  exact ⟨rfl, Hb6.out⟩

set_option maxHeartbeats 1000000 in
set_option maxRecDepth 100000 in
theorem i_BoxesGet (A : Option Addr) (n c : Nat) (X : List Bx) (s : ByteArray) (w : World) (hX : Bxs w w.heap.size A n X) (hS : BSmall X) (hn : n ≤ maxLen) :
    Calls Try.prog 34 #[.slice A n c, .string s] w fun e w' => Own1I w (bgetM X s) e w' := by
  have hl := hide hX.1
  have HX := hide hX
  have HS := hide hS
  have HN := hide hn
  clear hX hS hn
  go_enter Try.func34, Try.ntmps34
  go_wp2_with fail
  refine (i_Bs A n c X _ HX.out HS.out HN.out).mono ?_
  rintro e w1 ⟨rfl, hb1⟩
  have Hb1 := hide hb1
  have HX1 := hide (HX.out.on hb1)
  have hs1 := hb1.size
  clear hb1
  cases h1 : bxsB X
  · have H : Hid (bgetM X s = []) := bgetM_f h1
    clear h1
    go_wp2_with fail
    go_ret
    exact ⟨_, rfl, by rw [H.out]; exact OwnI.nil _ _, Hb1.out⟩
  have H1 := hide h1
  have hn10 : n ≤ 10 := by have h := bxsB_10 h1; have := hl.out; omega
  clear h1
  go_wp2_with fail
  refine (bplace_any A n c X s _ HX1.out (bxsB_asc H1.out) (by omega)).mono ?_
  rintro e w2 ⟨rfl, hb2⟩
  have Hb2 := hide hb2
  have HX2 := hide (HX1.out.on hb2)
  have hs2 := hb2.size
  clear hb2
  cases hm : memB (bnms X) s
  · have H : Hid (bgetM X s = []) := (bgetM_t H1.out).trans (bget_none (fun h => by rw [memB_t h] at hm; cases hm))
    clear hm
    go_wp2_with fail
    go_ret
    exact ⟨_, rfl, by rw [H.out]; exact OwnI.nil _ _, Hb1.out.trans (Hb2.out.mono hs1)⟩
  · have hat := (mem_pos (bxsB_asc H1.out)).1 (memB_iff.1 hm)
    obtain ⟨p, hp⟩ : ∃ p, pos (bnms X) s = p := ⟨_, rfl⟩
    rw [hp] at hat ⊢
    obtain ⟨t, ht⟩ : ∃ t, X[p]? = some t := by
      have := (List.getElem?_eq_some_iff.1 hat).1
      rw [bnms_len] at this
      exact ⟨X[p], List.getElem?_eq_getElem _⟩
    have hts : t.1 = s := by have h := bnms_at ht; rw [hat] at h; injection h with h; exact h.symm
    have H : Hid (bgetM X s = t.2) := by show _ = _; rw [bgetM_t H1.out, ← hts]; exact bget_at (bxsB_asc H1.out) ht
    obtain ⟨g, off, A', n', c', rfl, hg, hc0, hc1, hn', hm', hf⟩ := HX2.out.at' ht
    have HF := hide hf.ints
    have hn6 : n' ≤ 6 := by have h1 := (bxsB_bx H1.out (List.mem_of_getElem? ht)).2.1; have h2 := idsB_6 h1; have h3 := HF.out.1; omega
    have hpn : (p : Int) < (n : Int) := by have := (List.getElem?_eq_some_iff.1 ht).1; have := hl.out; omega
    have hpn' : p < n := by omega
    clear hm hat hp ht hts hf
    go_wp2_with fail
    refine (cloneI A' n' c' t.2 w2 HF.out (by omega)).mono ?_
    rintro e w3 ⟨v, rfl, ⟨A3, n3, c3, rfl, own3⟩, hb3⟩
    have Own3 := hide own3
    have Hb3 := hide hb3
    clear own3 hb3
    go_wp2_with fail
    go_ret
    exact ⟨_, rfl, by rw [H.out]; exact ⟨_, _, _, rfl, own_base Own3.out (Nat.le_trans hs1 hs2)⟩, Hb1.out.trans ((Hb2.out.trans (Hb3.out.mono hs2)).mono hs1)⟩
end Go.Proofs.Ytimpmlmkhjeajaa
