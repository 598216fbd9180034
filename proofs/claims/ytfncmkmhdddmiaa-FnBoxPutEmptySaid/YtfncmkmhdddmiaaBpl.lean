/- boxPlace of the program: slices.BinarySearchFunc, strings.Compare; BoxesGet. -/
import Derived.Test.YtfncmkmhdddmiaaHt
import Derived.Lib.Strings
import Derived.Lib.Slices
import Derived.Lib.Walk
import Derived.Lib.Bytealg
set_option linter.unusedVariables false
set_option linter.unusedSimpArgs false
namespace Go.Proofs.Ytfncmkmhdddmiaa
open Go.RowKit Go.BigFrame

/-- How two texts compare. -/
def cmpS (a b : ByteArray) : Int := Lib.compareBytes a.toList b.toList
theorem cmpS_data (a b : ByteArray) : Lib.compareBytes a.data.toList b.data.toList = cmpS a b := by unfold cmpS; rw [Lib.toList_data, Lib.toList_data]
theorem cmpL_lt : ∀ a b : List UInt8, (Lib.compareBytes a b < 0 ↔ Op.bytesLess a b = true) ∧ (Lib.compareBytes a b = 0 ↔ a = b) ∧ -1 ≤ Lib.compareBytes a b ∧ Lib.compareBytes a b ≤ 1
  | [], [] => by simp [Lib.compareBytes, Op.bytesLess]
  | [], _ :: _ => by simp [Lib.compareBytes, Op.bytesLess]
  | _ :: _, [] => by simp [Lib.compareBytes, Op.bytesLess]
  | a :: xs, b :: bs => by
    have ih := cmpL_lt xs bs
    unfold Lib.compareBytes
    by_cases h1 : a < b
    · have h2 : a ≠ b := fun e => by subst e; exact absurd h1 (by simp)
      simp [h1, Op.bytesLess, h2]
    · by_cases h2 : b < a
      · have h3 : a ≠ b := fun e => by subst e; exact absurd h2 (by simp)
        simp [h1, h2, Op.bytesLess, h3]
      · have h3 : a = b := UInt8.le_antisymm (UInt8.not_lt.1 h2) (UInt8.not_lt.1 h1)
        subst h3
        simp [Op.bytesLess, ih]
theorem cmpS_lt {a b : ByteArray} : cmpS a b < 0 ↔ blt a b = true := (cmpL_lt _ _).1
theorem cmpS_eq {a b : ByteArray} : cmpS a b = 0 ↔ a = b := ⟨fun h => toList_inj ((cmpL_lt _ _).2.1.1 h), fun h => (cmpL_lt _ _).2.1.2 (by rw [h])⟩
theorem cmpS_bd (a b : ByteArray) : -1 ≤ cmpS a b ∧ cmpS a b ≤ 1 := (cmpL_lt _ _).2.2

set_option maxHeartbeats 1000000 in
set_option maxRecDepth 100000 in
theorem cmp_in (a b : ByteArray) (w : World) :
    Calls Try.prog 82 #[.string a, .string b] w fun e w' => e = .returned (.int .i64 (cmpS a b)) ∧ w = w' := by
  go_enter Try.func82, Try.ntmps82
  go_wp2
  rw [run_callFunc_extern Try.func84 (by kernel_rfl) (by kernel_rfl) (by kernel_rfl) (e := Extern.BytealgCompare.compare) (by kernel_rfl), Lib.run_compareString, cmpS_data]
  simp only [Result.andThen]
  rw [Oper.upon_value]
  go_wp2
  go_ret
  exact ⟨rfl, rfl⟩
theorem cmp_any (a b : ByteArray) (w : World) :
    Calls Try.prog 77 #[.string a, .string b] w fun e w' => e = .returned (.int .i64 (cmpS a b)) ∧ w = w' := by
  go_enter Try.func77, Try.ntmps77
  go_wp2_with fail
  refine (cmp_in a b w).mono ?_
  rintro e w' ⟨rfl, rfl⟩
  go_wp2_with fail
  go_ret
  exact ⟨rfl, rfl⟩
theorem cmp_box (a s : ByteArray) (A : Option Addr) (n c : Nat) (w : World) :
    Calls Try.prog 76 #[.agg #[.string a, .slice A n c], .string s] w fun e w' => e = .returned (.int .i64 (cmpS a s)) ∧ Below w.heap.size w w' := by
  go_enter Try.func76, Try.ntmps76
  go_wp2_with fail
  refine (cmp_any a s _).mono ?_
  rintro e w' ⟨rfl, rfl⟩
  go_wp2_with fail
  go_ret
  exact ⟨rfl, (Below.refl _ _).alloc (Nat.le_refl _) _⟩

/-- Where it stands, whether it is there. -/
def Place (X : List Bx) (s : ByteArray) (w : World) (e : Ending) (w' : World) : Prop := e = .returned (.tuple #[.int .i64 (pos (bnms X) s : Nat), .bool (memB (bnms X) s)]) ∧ Below w.heap.size w w'

set_option maxHeartbeats 2000000 in
set_option maxRecDepth 100000 in
theorem bsf_any (A : Option Addr) (n c : Nat) (X : List Bx) (s : ByteArray) (w : World) (hX : Bxs w w.heap.size A n X) (ha : Asc (bnms X)) (hn : n ≤ 1000) :
    Calls Try.prog 75 #[.slice A n c, .string s, .func (.func 76) #[] #[]] w (Place X s w) := by
  have hl := hide (show (bnms X).length = n by rw [bnms_len]; exact hX.1)
  have hX := hide hX
  have ha := hide ha
  have hp : pos (bnms X) s ≤ n := by have := pos_le (bnms X) s; have := hl.out; omega
  go_enter Try.func75, Try.ntmps75
  go_wp2_with fail
  go_loopw [9, 10, 11] (fun i j _ wr => ∃ lo hi : Nat, i = .int .i64 lo ∧ j = .int .i64 hi ∧ lo ≤ pos (bnms X) s ∧ pos (bnms X) s ≤ hi ∧ hi ≤ n ∧ Hid (Below w.heap.size w wr)) (fun i j _ _ => (intOf j - intOf i).toNat)
  case atStart => exact ⟨0, n, rfl, rfl, Nat.zero_le _, hp, Nat.le_refl _, Below.refl _ _⟩
  case round =>
    obtain ⟨lo, hi, rfl, rfl, h1, h2, h3, hbr⟩ := hrel
    have hsz := hbr.out.size
    by_cases hlt : lo < hi
    · obtain ⟨t, ht⟩ : ∃ t, X[(lo + hi) / 2]? = some t := ⟨X[(lo + hi) / 2]'(by have := hX.out.1; omega), List.getElem?_eq_getElem _⟩
      obtain ⟨g, off, A', n', c', rfl, hg, hc0, hc1, hn', hm', hf⟩ := (hX.out.below hbr.out).at' ht
      have htn := bnms_at ht
      have hcb := cmpS_bd t.1 s
      clear hf
      cases hts : blt t.1 s
      · have hm : pos (bnms X) s ≤ (lo + hi) / 2 := by
          rcases Nat.lt_or_ge ((lo + hi) / 2) (pos (bnms X) s) with h | h
          · have := pos_lo h htn; rw [hts] at this; cases this
          · exact h
        have hnl : ¬ (cmpS t.1 s < 0) := fun h => by rw [cmpS_lt, hts] at h; cases h
        clear ht htn hts
        go_wp2_with fail
        refine (cmp_box t.1 s A' n' c' wr).mono ?_
        rintro e w6 ⟨rfl, hb6⟩
        have Hb6 := hide (hbr.out.trans (hb6.mono hsz))
        clear hb6
        go_wp2_with fail
        go_roundw
        case rel => exact ⟨lo, (lo + hi) / 2, rfl, by go_num, h1, hm, by omega, Hb6.out⟩
        case measure => simp [intOf]; omega
      · have hm : (lo + hi) / 2 + 1 ≤ pos (bnms X) s := by
          rcases Nat.lt_or_ge ((lo + hi) / 2) (pos (bnms X) s) with h | h
          · exact h
          · have := pos_hi ha.out h htn; rw [hts] at this; cases this
        have hnl : cmpS t.1 s < 0 := cmpS_lt.2 hts
        clear ht htn hts
        go_wp2_with fail
        refine (cmp_box t.1 s A' n' c' wr).mono ?_
        rintro e w6 ⟨rfl, hb6⟩
        have Hb6 := hide (hbr.out.trans (hb6.mono hsz))
        clear hb6
        go_wp2_with fail
        go_roundw
        case rel => exact ⟨(lo + hi) / 2 + 1, hi, by go_num, rfl, hm, h2, h3, Hb6.out⟩
        case measure => simp [intOf]; omega
    · obtain rfl : lo = pos (bnms X) s := by omega
      by_cases hlt2 : pos (bnms X) s < n
      · obtain ⟨t, ht⟩ : ∃ t, X[pos (bnms X) s]? = some t := ⟨X[pos (bnms X) s]'(by have := hX.out.1; omega), List.getElem?_eq_getElem _⟩
        obtain ⟨g, off, A', n', c', rfl, hg, hc0, hc1, hn', hm', hf⟩ := (hX.out.below hbr.out).at' ht
        have htn := bnms_at ht
        have hcb := cmpS_bd t.1 s
        clear hf
        by_cases e : t.1 = s
        · have H : Hid (memB (bnms X) s = true) := memB_t (e ▸ List.mem_of_getElem? htn)
          have hz : (cmpS t.1 s == 0) = true := by simpa using cmpS_eq.2 e
          clear ht htn e
          go_wp2_with fail
          refine (cmp_box t.1 s A' n' c' wr).mono ?_
          rintro e w6 ⟨rfl, hb6⟩
          have Hb6 := hide (hbr.out.trans (hb6.mono hsz))
          clear hb6
          go_wp2_with fail
          go_ret2
          exact ⟨by rw [H.out]; first | rfl | simp [hz], Hb6.out⟩
        · have H : Hid (memB (bnms X) s = false) := memB_f (fun h => by have := (mem_pos ha.out).1 h; rw [htn] at this; injection this with this; exact e this)
          have hz : (cmpS t.1 s == 0) = false := by simpa using fun h => e (cmpS_eq.1 h)
          clear ht htn e
          go_wp2_with fail
          refine (cmp_box t.1 s A' n' c' wr).mono ?_
          rintro e w6 ⟨rfl, hb6⟩
          have Hb6 := hide (hbr.out.trans (hb6.mono hsz))
          clear hb6
          go_wp2_with fail
          go_ret2
          exact ⟨by rw [H.out]; first | rfl | simp [hz], Hb6.out⟩
      · have H : Hid (memB (bnms X) s = false) := memB_f (fun h => by have := (mem_pos ha.out).1 h; rw [List.getElem?_eq_none (by have := hl.out; omega)] at this; cases this)
        go_wp2_with fail
        go_ret2
        exact ⟨by rw [H.out]; rfl, hbr.out⟩

theorem place_any (A : Option Addr) (n c : Nat) (X : List Bx) (s : ByteArray) (w : World) (hX : Bxs w w.heap.size A n X) (ha : Asc (bnms X)) (hn : n ≤ 1000) :
    Calls Try.prog 59 #[.slice A n c, .string s] w (Place X s w) := by
  have HX := hide hX
  have Ha := hide ha
  clear hX ha
  go_enter Try.func59, Try.ntmps59
  go_wp2_with fail
  refine (bsf_any A n c X s w HX.out Ha.out hn).mono ?_
  rintro e w6 ⟨rfl, hb6⟩
  have Hb6 := hide hb6
  clear hb6
  go_wp2_with fail
  go_ret2
  exact ⟨rfl, Hb6.out⟩

set_option maxHeartbeats 1000000 in
set_option maxRecDepth 100000 in
theorem i_BoxesGet (A : Option Addr) (n c : Nat) (X : List Bx) (s : ByteArray) (w : World) (hX : Bxs w w.heap.size A n X) (hS : BSmall X) (hn : n ≤ maxLen) :
    Calls Try.prog 28 #[.slice A n c, .string s] w fun e w' => Own1I w (bgetM X s) e w' := by
  have hl := hide hX.1
  have HX := hide hX
  have HS := hide hS
  have HN := hide hn
  clear hX hS hn
  go_enter Try.func28, Try.ntmps28
  go_wp2_with fail
  refine (i_Bs A n c X _ HX.out HS.out HN.out).mono ?_
  rintro e w1 ⟨rfl, hb1⟩
  have Hb1 := hide hb1
  have HX1 := hide (HX.out.on hb1)
  have hs1 := hb1.size
  clear hb1
  cases h1 : bxsB X
  · have H : Hid (bgetM X s = []) := bgetM_f h1
    clear h1
    go_wp2_with fail
    go_ret
    exact ⟨_, rfl, by rw [H.out]; exact OwnI.nil _ _, Hb1.out⟩
  have H1 := hide h1
  have hn10 : n ≤ 10 := by have h := bxsB_10 h1; have := hl.out; omega
  clear h1
  go_wp2_with fail
  refine (place_any A n c X s _ HX1.out (bxsB_asc H1.out) (by omega)).mono ?_
  rintro e w2 ⟨rfl, hb2⟩
  have Hb2 := hide hb2
  have HX2 := hide (HX1.out.on hb2)
  have hs2 := hb2.size
  clear hb2
  cases hm : memB (bnms X) s
  · have H : Hid (bgetM X s = []) := (bgetM_t H1.out).trans (bget_none (fun h => by rw [memB_t h] at hm; cases hm))
    clear hm
    go_wp2_with fail
    go_ret
    exact ⟨_, rfl, by rw [H.out]; exact OwnI.nil _ _, Hb1.out.trans (Hb2.out.mono hs1)⟩
  · have hat := (mem_pos (bxsB_asc H1.out)).1 (memB_iff.1 hm)
    obtain ⟨p, hp⟩ : ∃ p, pos (bnms X) s = p := ⟨_, rfl⟩
    rw [hp] at hat ⊢
    obtain ⟨t, ht⟩ : ∃ t, X[p]? = some t := by
      have := (List.getElem?_eq_some_iff.1 hat).1
      rw [bnms_len] at this
      exact ⟨X[p], List.getElem?_eq_getElem _⟩
    have hts : t.1 = s := by have h := bnms_at ht; rw [hat] at h; injection h with h; exact h.symm
    have H : Hid (bgetM X s = t.2) := by show _ = _; rw [bgetM_t H1.out, ← hts]; exact bget_at (bxsB_asc H1.out) ht
    obtain ⟨g, off, A', n', c', rfl, hg, hc0, hc1, hn', hm', hf⟩ := HX2.out.at' ht
    have HF := hide hf.ints
    have hn6 : n' ≤ 6 := by have h1 := (bxsB_bx H1.out (List.mem_of_getElem? ht)).2.1; have h2 := idsB_6 h1; have h3 := HF.out.1; omega
    have hpn : (p : Int) < (n : Int) := by have := (List.getElem?_eq_some_iff.1 ht).1; have := hl.out; omega
    have hpn' : p < n := by omega
    clear hm hat hp ht hts hf
    go_wp2_with fail
    refine (cloneI A' n' c' t.2 w2 HF.out (by omega)).mono ?_
    rintro e w3 ⟨v, rfl, ⟨A3, n3, c3, rfl, own3⟩, hb3⟩
    have Own3 := hide own3
    have Hb3 := hide hb3
    clear own3 hb3
    go_wp2_with fail
    go_ret
    exact ⟨_, rfl, by rw [H.out]; exact ⟨_, _, _, rfl, own_base Own3.out (Nat.le_trans hs1 hs2)⟩, Hb1.out.trans ((Hb2.out.trans (Hb3.out.mono hs2)).mono hs1)⟩
end Go.Proofs.Ytfncmkmhdddmiaa
