/- Words of the exact laws of posts: sizes, copies, equality, marks. -/
import Derived.Test.YtfncmkmhdddmiabRev
import Derived.Test.YtfncmkmhdddmiabMk
import Derived.Test.YtfncmkmhdddmiabLater
import Derived.Deep.RegionWith
set_option linter.unusedVariables false
set_option linter.unusedSimpArgs false
namespace Go.Proofs.Ytfncmkmhdddmiab
open Go.RowKit Go.BigFrame

/-- A size is returned: below 0, or all is small. -/
def SzP (n : Nat) (left : Nat) (e : Ending) : Prop := (e = .returned (.int .i64 (-1))) ∨ ∃ r : Nat, e = .returned (.int .i64 r) ∧ r ≤ left ∧ n ≤ left
set_option maxHeartbeats 1000000 in
theorem e_szP1 (i : Int) (s : ByteArray) (x : Nat) (w : World) (hs : s.size ≤ maxLen) (hx : x ≤ 1048576) :
    Calls Try.prog 51 #[.agg #[.int .i64 i, .string s], .int .i64 x] w fun e w' => SzP 0 x e ∧ Below w.heap.size w w' := by
  unfold maxLen at hs
  by_cases h : x < s.size
  · have h2 : (x : Int) - (s.size : Int) < 0 := by omega
    go_enter Try.func51, Try.ntmps51
    go_wp2_with fail
    go_ret
    exact ⟨.inl rfl, (Below.refl _ _).alloc (Nat.le_refl _) _⟩
  · have h2 : ¬ ((x : Int) - (s.size : Int) < 0) := by omega
    go_enter Try.func51, Try.ntmps51
    go_wp2_with fail
    go_ret
    exact ⟨.inr ⟨x - s.size, by go_num, by omega, by omega⟩, (Below.refl _ _).alloc (Nat.le_refl _) _⟩
set_option maxHeartbeats 1000000 in
theorem e_szP (A : Option Addr) (n c : Nat) (X : List Pst) (left : Nat) (w : World) (hX : Psts w w.heap.size A n X) (hS : PSmall X) (hn : n ≤ maxLen) (hl2 : left ≤ 1048576) :
    Calls Try.prog 31 #[.slice A n c, .int .i64 left] w fun e w' => SzP n left e ∧ Below w.heap.size w w' := by
  unfold maxLen at hn
  have hl := hide hX.1
  have HX := hide hX
  have HS := hide hS
  clear hX hS
  by_cases h0 : left < n
  · have hlt : (left : Int) < (n : Int) := by omega
    go_enter Try.func31, Try.ntmps31
    go_wp2_with fail
    go_ret
    exact ⟨.inl rfl, Below.refl _ _⟩
  obtain ⟨d, hd⟩ : ∃ d, left = d + n := ⟨left - n, by omega⟩
  have hneg : ¬ ((left : Int) - (n : Int) < 0) := by omega
  have Hd := hide hd
  clear hd h0
  go_enter Try.func31, Try.ntmps31
  go_wp2_with fail
  go_loopw [1, 5] (fun r i wr => ∃ k x : Nat, k ≤ n ∧ i = .int .i64 k ∧ r = .int .i64 x ∧ x ≤ d ∧ Hid (Below w.heap.size w wr)) (fun _ i _ => n - (intOf i).toNat)
  case atStart => exact ⟨0, d, Nat.zero_le _, rfl, by have := Hd.out; go_num, Nat.le_refl _, Below.refl _ _⟩
  case round =>
    obtain ⟨k, x, hk, rfl, rfl, hx, hbr⟩ := hrel
    by_cases hlt : k < n
    · obtain ⟨a, ha⟩ : ∃ a, X[k]? = some a := ⟨X[k]'(by have := hl.out; omega), List.getElem?_eq_getElem _⟩
      obtain ⟨g, off, rfl, hg, hc0, hc1⟩ := (HX.out.below hbr.out).at' ha
      have hsm := HS.out a (List.mem_of_getElem? ha)
      have hsz := hbr.out.size
      clear ha
      go_wp2_with fail
      refine (e_szP1 a.1 a.2 x _ hsm (by have := Hd.out; omega)).mono ?_
      rintro e w2 ⟨h, hb2⟩
      have Hb2 := hide (hbr.out.trans (hb2.mono hsz))
      clear hb2
      rcases h with rfl | ⟨r, rfl, hr, _⟩
      · go_wp2_with fail
        go_ret
        exact ⟨.inl rfl, Hb2.out⟩
      · have hr0 : ¬ ((r : Int) < 0) := by omega
        go_wp2_with fail
        go_roundw
        case rel => exact ⟨k + 1, r, by omega, by go_num, by go_num, by omega, Hb2.out⟩
        case measure => simp [intOf]; omega
    · go_wp2_with fail
      go_ret
      exact ⟨.inr ⟨x, rfl, by have := Hd.out; omega, by have := Hd.out; omega⟩, hbr.out⟩

set_option maxHeartbeats 1000000 in
theorem e_toP1 (i : Int) (s : ByteArray) (w : World) :
    Calls Try.prog 52 #[.agg #[.int .i64 i, .string s]] w fun e w' => e = .returned (.agg #[.int .i64 i, .string s]) ∧ Below w.heap.size w w' := by
  go_enter Try.func52, Try.ntmps52
  go_wp2_with fail
  have hb0 := Blk.new ((w.alloc (.cells #[.int .i64 i, .string s] 68))) 31 #[.int .i64 i, .string s]
  rw [World.size_alloc] at hb0
  have hb1 := hb0.alloc (.cells #[.int .i64 i, .string s] 31)
  have h0 := hb1.cell 0
  have h1 := hb1.cell 1
  refine bodyPost_ret (v := .agg #[.int .i64 i, .string s]) (by simp [results, Try.results52, go_sem, h0, h1]) rfl ⟨rfl, ?_⟩
  exact (((Below.refl _ _).alloc (Nat.le_refl _) _).alloc (by simp) _).alloc (by simp; omega) _

set_option maxHeartbeats 1000000 in
theorem e_toP (A : Option Addr) (n c : Nat) (X : List Pst) (w : World) (hX : Psts w w.heap.size A n X) (hn : n ≤ 1048576) :
    Calls Try.prog 32 #[.slice A n c] w fun e w' => e = .returned (.slice (some ⟨w.heap.size, 0, none⟩) n n) ∧ w'.ownsRow w.heap.size 31 2 (.slice (some ⟨w.heap.size, 0, none⟩) n n) n (pcells X) ∧ Below w.heap.size w w' := by
  obtain ⟨i0, hi0, hz0, hz1, hz2⟩ := info_parts' post_info
  have hU := Try.underlying23
  have hl := hide hX.1
  have HX := hide hX
  clear hX
  have b1 : i0.bytes * n ≤ 281474976710656 := by rw [hz2]; omega
  have b2 : n ≤ maxLen := by unfold maxLen; omega
  go_enter Try.func32, Try.ntmps32
  go_wp2_with (at_make
               refine wpList_make_full _ rfl (.tmp 6) (.tmp 6) _ rfl w.heap.size 31 i0 _ 2 hU hi0 hz0 hz1 .i64 .i64 (n : Int) (n : Int) n rfl rfl rfl rfl b1 b2 (Nat.le_refl _) ?_
               intro w1 own1 gr1
               have hb1 : Below w.heap.size w w1 := (Below.refl _ _).grown gr1 (Nat.le_refl _) (by simp)
               clear gr1)
  go_loopw [4] (fun i wr => ∃ (k : Nat) (Z : List Value), k ≤ n ∧ i = .int .i64 k ∧ wr.ownsRow w.heap.size 31 2 (.slice (some ⟨w.heap.size, 0, none⟩) n n) n Z ∧ Hid (Z.take (k * 2) = pcells (X.take k)) ∧ Hid (Below w.heap.size w wr)) (fun i _ => n - (intOf i).toNat)
  case atStart => exact ⟨0, _, Nat.zero_le _, rfl, own1, by simp [Hid, pcells], hb1⟩
  case round =>
    obtain ⟨k, Z, hk, rfl, hown, hu, hbr⟩ := hrel
    have hz := hide hown.1
    have Hown := hide hown
    clear hown
    by_cases hlt : k < n
    · obtain ⟨a, ha⟩ : ∃ a, X[k]? = some a := ⟨X[k]'(by have := hl.out; omega), List.getElem?_eq_getElem _⟩
      obtain ⟨g, off, rfl, hg, hc0, hc1⟩ := (HX.out.below hbr.out).at' ha
      have hsz := hbr.out.size
      have hE : Hid (pcells (X.take (k + 1)) = pcells (X.take k) ++ [Value.int .i64 a.1, Value.string a.2]) := by
        rw [List.take_add_one, ha, pcells_app]; rfl
      clear ha
      go_wp2_with fail
      refine (e_toP1 a.1 a.2 _).mono ?_
      rintro e w3 ⟨rfl, hb3⟩
      have Hb3 := hide (hbr.out.trans (hb3.mono hsz))
      have Hown3 := hide (Hown.out.kept (grown_of_below hb3 (row := none)) (.inr (by simp [Value.ownBlock])))
      have hf0 : w3.frozen? ⟨w.heap.size, k * 2, none⟩ = false := Hown3.out.frozenAt (k * 2)
      have hf1 : w3.frozen? ⟨w.heap.size, k * 2 + 1, none⟩ = false := Hown3.out.frozenAt (k * 2 + 1)
      obtain ⟨z0, hz0'⟩ : ∃ z, Z[k * 2]? = some z := ⟨Z[k * 2]'(by have := hz.out; omega), List.getElem?_eq_getElem _⟩
      obtain ⟨z1, hz1'⟩ : ∃ z, Z[k * 2 + 1]? = some z := ⟨Z[k * 2 + 1]'(by have := hz.out; omega), List.getElem?_eq_getElem _⟩
      have hcz0 : w3.cell? ⟨w.heap.size, k * 2, none⟩ = some z0 := (Hown3.out.cellAt (k * 2) (by omega)).trans hz0'
      have hcz1 : w3.cell? ⟨w.heap.size, k * 2 + 1, none⟩ = some z1 := (Hown3.out.cellAt (k * 2 + 1) (by omega)).trans hz1'
      have s1 := Hown3.out.stored (k * 2) (.int .i64 a.1)
      have s2 := s1.1.stored (k * 2 + 1) (.string a.2)
      have S2 := hide s2.1
      have HB : Hid (Below w.heap.size w ((w3.setCell ⟨w.heap.size, k * 2, none⟩ (.int .i64 a.1)).setCell ⟨w.heap.size, k * 2 + 1, none⟩ (.string a.2))) := (Hb3.out.setCell (Nat.le_refl _) _).setCell (Nat.le_refl _) _
      have H : Hid (((Z.set (k * 2) (.int .i64 a.1)).set (k * 2 + 1) (.string a.2)).take ((k + 1) * 2) = pcells (X.take (k + 1))) := by
        show _ = _
        rw [hE.out, ← hu.out]
        have hzl := hz.out
        apply List.ext_getElem?; intro j
        rw [List.getElem?_take]
        have htl : (Z.take (k * 2)).length = k * 2 := by rw [List.length_take]; omega
        rcases Nat.lt_trichotomy j (k * 2) with hj | hj | hj
        · rw [if_pos (by omega), List.getElem?_set_ne (by omega), List.getElem?_set_ne (by omega), List.getElem?_append_left (by omega), List.getElem?_take, if_pos hj]
        · subst hj
          rw [if_pos (by omega), List.getElem?_set_ne (by omega), List.getElem?_set_self (by omega), List.getElem?_append_right (by omega), htl, Nat.sub_self]; rfl
        · rw [List.getElem?_append_right (by omega), htl]
          by_cases e : j = k * 2 + 1
          · subst e
            rw [if_pos (by omega), List.getElem?_set_self (by simp; omega), show k * 2 + 1 - k * 2 = 1 by omega]; rfl
          · rw [if_neg (by omega), List.getElem?_eq_none (by simp; omega)]
      clear hb3 s1 s2 hz0' hz1'
      go_wp2_with fail
      go_roundw
      case rel => exact ⟨k + 1, _, by omega, by go_num, S2.out, H, HB.out⟩
      case measure => simp [intOf]; omega
    · have HZ : Hid (Z = pcells X) := by
        have h1 := hu.out
        rw [List.take_of_length_le (by have := hz.out; omega), List.take_of_length_le (by have := hl.out; omega)] at h1
        exact h1
      go_wp2_with fail
      go_ret
      exact ⟨rfl, by rw [← HZ.out]; exact Hown.out, hbr.out⟩

set_option maxHeartbeats 1000000 in
theorem e_eqP1 (i : Int) (s : ByteArray) (w : World) :
    Calls Try.prog 53 #[.agg #[.int .i64 i, .string s], .agg #[.int .i64 i, .string s]] w fun e w' => e = .returned (.bool true) ∧ Below w.heap.size w w' := by
  go_enter Try.func53, Try.ntmps53
  go_wp2_with fail
  go_ret
  exact ⟨rfl, ((Below.refl _ _).alloc (Nat.le_refl _) _).alloc (by simp) _⟩
theorem Later.eqP {B : Nat} {W : World} (z : Later B W) (i : Int) (s : ByteArray) (hB : B ≤ W.heap.size) :
    Calls Try.prog 53 #[.agg #[.int .i64 i, .string s], .agg #[.int .i64 i, .string s]] z.it fun e w'' => e = .returned (.bool true) ∧ ∃ z' : Later B W, w'' = z'.it := by
  have hsz := z.below.size
  exact Later.call ((e_eqP1 i s z.it).mono fun e w' ⟨h1, h2⟩ => ⟨h1, h2.mono (by omega)⟩)
set_option maxHeartbeats 1000000 in
theorem e_eqP (A : Option Addr) (n c : Nat) (B : Option Addr) (m d : Nat) (X : List Pst) (w : World) (hL : Psts w w.heap.size A n X) (hM : Psts w w.heap.size B m X) (hn : n ≤ maxLen) :
    Calls Try.prog 33 #[.slice A n c, .slice B m d] w fun e w' => e = .returned (.bool true) ∧ Below w.heap.size w w' := by
  unfold maxLen at hn
  have hnm : n = m := hL.1.symm.trans hM.1
  subst hnm
  have hl := hide hL.1
  have HL := hide hL
  have HM := hide hM
  clear hL hM
  go_enter Try.func33, Try.ntmps33
  go_wp2_with fail
  go_loopw [5] (fun i wr => ∃ k : Nat, k ≤ n ∧ i = .int .i64 k ∧ Hid (Below w.heap.size w wr)) (fun i _ => n - (intOf i).toNat)
  case atStart => exact ⟨0, Nat.zero_le _, rfl, Below.refl _ _⟩
  case round =>
    obtain ⟨k, hk, rfl, hbr⟩ := hrel
    by_cases hlt : k < n
    · obtain ⟨a, ha⟩ : ∃ a, X[k]? = some a := ⟨X[k]'(by have := hl.out; omega), List.getElem?_eq_getElem _⟩
      obtain ⟨g, off, rfl, hg, hc0, hc1⟩ := (HL.out.below hbr.out).at' ha
      obtain ⟨g2, off2, rfl, hg2, hd0, hd1⟩ := (HM.out.below hbr.out).at' ha
      have hz0 : ∀ z : Later w.heap.size wr, z.it.cell? ⟨g, off + k * 2, none⟩ = some (.int .i64 a.1) := fun z => (z.cell hg).trans hc0
      have hz1 : ∀ z : Later w.heap.size wr, z.it.cell? ⟨g, off + k * 2 + 1, none⟩ = some (.string a.2) := fun z => (z.cell hg).trans hc1
      have hz2 : ∀ z : Later w.heap.size wr, z.it.cell? ⟨g2, off2 + k * 2, none⟩ = some (.int .i64 a.1) := fun z => (z.cell hg2).trans hd0
      have hz3 : ∀ z : Later w.heap.size wr, z.it.cell? ⟨g2, off2 + k * 2 + 1, none⟩ = some (.string a.2) := fun z => (z.cell hg2).trans hd1
      have hsz := hbr.out.size
      clear hc0 hc1 hd0 hd1 ha
      go_wp2_with fail
      refine wp_region_later (B := w.heap.size) (by kernel_rfl) (by kernel_rfl) ?_
      repeat (go_big_quiet_step ((go_at_call 53; exact Later.eqP _ a.1 a.2 hsz)))
      refine wpQuiet_nil ?_
      intro _ hw'
      obtain ⟨⟨w5, hb5⟩, hw''⟩ := hw'
      subst hw''
      have Hb5 := hide hb5
      clear hb5
      go_wp2_with fail
      go_roundw
      case rel => exact ⟨k + 1, by omega, by go_num, hbr.out.trans Hb5.out⟩
      case measure => simp [intOf]; omega
    · go_wp2_with fail
      go_ret
      exact ⟨rfl, hbr.out⟩

/-- n marks from k on. -/
def markP (k n : Nat) : List Pst := (List.range n).map fun j => (((k + 2 * j : Nat) : Int), mkT (k + 2 * j + 1))
theorem markP_len (k n : Nat) : (markP k n).length = n := by simp [markP]
theorem markP_at {k n j : Nat} (h : j < n) : (markP k n)[j]? = some (((k + 2 * j : Nat) : Int), mkT (k + 2 * j + 1)) := by simp [markP, h]
theorem markP_take {k n : Nat} : ∀ {j : Nat}, j ≤ n → (markP k n).take j = markP k j := by
  intro j hj
  apply List.ext_getElem?; intro i
  rw [List.getElem?_take]
  split
  · rw [markP_at (by omega), markP_at (by omega)]
  · rw [List.getElem?_eq_none (by rw [markP_len]; omega)]

set_option maxHeartbeats 1000000 in
theorem e_marksP (base : Nat) (A : Option Addr) (n c k : Nat) (X : List Pst) (w : World) (own : w.ownsRow base 31 2 (.slice A n c) n (pcells X)) (hk : 1 ≤ k) (hk2 : k ≤ 1000000) (hn : n ≤ 2000000) :
    Calls Try.prog 34 #[.slice A n c, .int .i64 k] w fun e w' => e = .returned (.int .i64 ((k + 2 * n : Nat) : Int)) ∧ w'.ownsRow base 31 2 (.slice A n c) n (pcells (markP k n)) ∧ w.grownBy w' (Value.slice A n c).ownBlock := by
  rcases own_form own with ⟨rfl, rfl⟩ | ⟨b, rfl⟩
  · go_enter Try.func34, Try.ntmps34
    go_wp2_with fail
    go_loopw [1, 5] (fun r i wr => r = .int .i64 k ∧ i = .int .i64 0 ∧ wr = w) (fun _ _ _ => 0)
    case atStart => exact ⟨rfl, rfl, rfl⟩
    case round =>
      obtain ⟨rfl, rfl, rfl⟩ := hrel
      go_wp2_with fail
      go_ret
      have hL0 : X = [] := List.eq_nil_of_length_eq_zero (by have h := own.1; rw [pcells_len] at h; omega)
      rw [hL0] at own
      exact ⟨rfl, own, World.grownBy.refl _ _⟩
  · have Own := hide own
    clear own
    go_enter Try.func34, Try.ntmps34
    go_wp2_with fail
    go_loopw [1, 5] (fun r i wr => ∃ (j : Nat) (Z : List Pst), j ≤ n ∧ r = .int .i64 ((k + 2 * j : Nat) : Int) ∧ i = .int .i64 j ∧ wr.ownsRow base 31 2 (.slice (some ⟨b, 0, none⟩) n c) n (pcells Z) ∧ Hid (Z.take j = markP k j) ∧ Hid (w.grownBy wr (some b))) (fun _ i _ => n - (intOf i).toNat)
    case atStart => exact ⟨0, X, Nat.zero_le _, rfl, rfl, Own.out, by simp [Hid, markP], World.grownBy.refl _ _⟩
    case round =>
      obtain ⟨j, Z, hj, rfl, rfl, hown, hu, hgr⟩ := hrel
      have hz : Hid (Z.length = n) := (Psts.of_own hown).1
      have Hown := hide hown
      clear hown
      by_cases hlt : j < n
      · obtain ⟨a, ha⟩ : ∃ a, Z[j]? = some a := ⟨Z[j]'(by have := hz.out; omega), List.getElem?_eq_getElem _⟩
        have hll : (pcells Z).length = n * 2 := by rw [pcells_len, hz.out]
        have hc0 : wr.cell? ⟨b, j * 2, none⟩ = some (.int .i64 a.1) := (Hown.out.cellAt (j * 2) (by omega)).trans (pcells_at ha).1
        have hf0 : wr.frozen? ⟨b, j * 2, none⟩ = false := Hown.out.frozenAt (j * 2)
        have hst := OwnP.set0 Hown.out ha ((k + 2 * j : Nat) : Int)
        have Hst := hide hst
        have h2 : (Z.set j (((k + 2 * j : Nat) : Int), a.2))[j]? = some (((k + 2 * j : Nat) : Int), a.2) := List.getElem?_set_self (by have := hz.out; omega)
        have H2 := hide h2
        have Ha := hide ha
        clear hst h2 ha hll
        go_wp2_with fail
        refine (e_mark (k + 2 * j + 1) _ (by omega) (by omega)).mono ?_
        rintro e w3 ⟨rfl, hb3⟩
        have Own3 := hide (Hst.out.1.kept (grown_of_below hb3 (row := none)) (.inr (by simp [Value.ownBlock])))
        have Gr3 := hide (grown_tb (Hst.out.2) hb3)
        have hc1 : w3.cell? ⟨b, j * 2 + 1, none⟩ = some (.string a.2) := (Own3.out.cellAt (j * 2 + 1) (by omega)).trans (pcells_at H2.out).2
        have hf1 : w3.frozen? ⟨b, j * 2 + 1, none⟩ = false := Own3.out.frozenAt (j * 2 + 1)
        have s1 := Own3.out.stored (j * 2 + 1) (.string (mkT (k + 2 * j + 1)))
        rw [pcells_set1 _ H2.out, List.set_set] at s1
        have S1 := hide s1
        have H : Hid ((Z.set j (((k + 2 * j : Nat) : Int), mkT (k + 2 * j + 1))).take (j + 1) = markP k (j + 1)) := by
          show _ = _
          rw [List.take_add_one, List.getElem?_set_self (by have := hz.out; omega), List.take_set_of_le (Nat.le_refl _), hu.out]
          simp [markP, List.range_succ]
        clear hb3 s1 hc0 hf0
        generalize mkT (k + 2 * j + 1) = t at *
        go_wp2_with fail
        go_roundw
        case rel => exact ⟨j + 1, _, by omega, by go_num, by go_num, S1.out.1, H, grown_tr (grown_tr hgr.out Gr3.out) S1.out.2⟩
        case measure => simp [intOf]; omega
      · obtain rfl : j = n := by omega
        have HZ : Hid (Z = markP k j) := by have h := hu.out; rw [List.take_of_length_le (by have := hz.out; omega)] at h; exact h
        go_wp2_with fail
        go_ret
        exact ⟨rfl, by rw [← HZ.out]; exact Hown.out, hgr.out⟩

set_option maxHeartbeats 1000000 in
theorem e_heldP (A : Option Addr) (n c k : Nat) (w : World) (hL : Psts w w.heap.size A n (markP k n)) (hk : 1 ≤ k) (hk2 : k ≤ 1000000) (hn : n ≤ 2000000) :
    Calls Try.prog 35 #[.slice A n c, .int .i64 k] w fun e w' => e = .returned (.int .i64 ((k + 2 * n : Nat) : Int)) ∧ Below w.heap.size w w' := by
  have HL := hide hL
  clear hL
  go_enter Try.func35, Try.ntmps35
  go_wp2_with fail
  go_loopw [1, 5] (fun r i wr => ∃ (j : Nat), j ≤ n ∧ r = .int .i64 ((k + 2 * j : Nat) : Int) ∧ i = .int .i64 j ∧ Hid (Below w.heap.size w wr)) (fun _ i _ => n - (intOf i).toNat)
  case atStart => exact ⟨0, Nat.zero_le _, rfl, rfl, Below.refl _ _⟩
  case round =>
    obtain ⟨j, hj, rfl, rfl, hb⟩ := hrel
    by_cases hlt : j < n
    · obtain ⟨g, off, rfl, hgb, hc0, hck⟩ := (HL.out.below hb.out).at' (markP_at hlt)
      have hsz := hb.out.size
      have hgt : g < wr.heap.size := by omega
      have hm := fun W => e_mark (k + 2 * j + 1) W (by omega) (by omega)
      have HM := hide hm
      clear hm
      generalize mkT (k + 2 * j + 1) = t at *
      go_wp2_with fail
      go_region_with (go_at_call 54; refine (HM.out _).mono ?_; rintro e w3 ⟨rfl, hb3⟩; have hc3 : w3.cell? ⟨g, off + j * 2 + 1, none⟩ = some (.string t) := (hb3.cell (p := ⟨g, off + j * 2 + 1, none⟩) hgt).trans hck)
      all_goals
        have hb3' : Below wr.heap.size wr w3 := (below_drewN' wr.heap.size wr 1).trans hb3
        have Hb13 : Hid (Below w.heap.size w w3) := hb.out.trans (hb3'.mono hsz)
        clear hb3 hb3'
        go_wp2_with fail
        go_roundw
        case rel => exact ⟨j + 1, by omega, by go_num, by go_num, Hb13.out⟩
        case measure => simp [intOf]; omega
    · obtain rfl : j = n := by omega
      go_wp2_with fail
      go_ret
      exact ⟨rfl, hb.out⟩
end Go.Proofs.Ytfncmkmhdddmiab
