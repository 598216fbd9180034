/- Words of the exact laws of boxes: copies, equality. -/
import Derived.Test.YtfncmkmhdddmiaaExB
import Derived.Test.YtfncmkmhdddmiaaExJ
set_option linter.unusedVariables false
set_option linter.unusedSimpArgs false
namespace Go.Proofs.Ytfncmkmhdddmiaa
open Go.RowKit Go.BigFrame

theorem grown_set (W : World) (p : Addr) (v : Value) : W.grownBy (W.setCell p v) (some p.block) := ⟨rfl, rfl, rfl, by simp, fun k _ hk => heap_setCell_other W p k v (fun e => hk (by simp [e]))⟩
theorem take_two {Z : List Value} {k : Nat} {x y : Value} (hz : k * 2 + 1 < Z.length) : ((Z.set (k * 2) x).set (k * 2 + 1) y).take ((k + 1) * 2) = Z.take (k * 2) ++ [x, y] := by
  apply List.ext_getElem?; intro j
  rw [List.getElem?_take]
  have htl : (Z.take (k * 2)).length = k * 2 := by rw [List.length_take]; omega
  rcases Nat.lt_trichotomy j (k * 2) with hj | hj | hj
  · rw [if_pos (by omega), List.getElem?_set_ne (by omega), List.getElem?_set_ne (by omega), List.getElem?_append_left (by omega), List.getElem?_take, if_pos hj]
  · subst hj
    rw [if_pos (by omega), List.getElem?_set_ne (by omega), List.getElem?_set_self (by omega), List.getElem?_append_right (by omega), htl, Nat.sub_self]; rfl
  · rw [List.getElem?_append_right (by omega), htl]
    by_cases e : j = k * 2 + 1
    · subst e
      rw [if_pos (by omega), List.getElem?_set_self (by simp; omega), show k * 2 + 1 - k * 2 = 1 by omega]; rfl
    · rw [if_neg (by omega), List.getElem?_eq_none (by simp; omega)]
def NestX (base : Nat) (w : World) (A : Option Addr) (n c : Nat) (X : List Bx) : Prop := ∃ Y, bxV Y = X ∧ NestB base w A n c Y
theorem own_leni' {w : World} {base m : Nat} {e : TypeId} {v : Value} {L : List Int} (h : w.ownsRow base e 1 v m (L.map (Value.int .i64))) : L.length = m := by have := h.1; rw [List.length_map, Nat.mul_one] at this; exact this
/-- toBoxS behind k rounds. -/
def ToAt (w wr : World) (n k : Nat) (Z : List Value) (X : List Bx) : Prop :=
  ∃ Y, bxV Y = X.take k ∧ Z.take (k * 2) = wcells Y ∧ wr.ownsRow w.heap.size 40 2 (.slice (some ⟨w.heap.size, 0, none⟩) n n) n Z ∧
    (∀ y ∈ Y, wr.ownsRow w.heap.size 3 1 y.2.2 y.2.1.length (y.2.1.map (Value.int .i64))) ∧ (∀ y ∈ Y, ∀ b, y.2.2.ownBlock = some b → w.heap.size < b) ∧ Y.Pairwise fun y z => ∀ b, y.2.2.ownBlock = some b → z.2.2.ownBlock ≠ some b
theorem ToAt.below {w wr w3 : World} {n k : Nat} {Z : List Value} {X : List Bx} (h : ToAt w wr n k Z X) (hb : Below wr.heap.size wr w3) : ToAt w w3 n k Z X := by
  obtain ⟨Y, h1, h2, h3, h4, h5, h6⟩ := h
  exact ⟨Y, h1, h2, h3.kept (grown_of_below hb (row := none)) (.inr (by simp [Value.ownBlock])), fun y hy => (h4 y hy).kept (grown_of_below hb (row := none)) (Classical.em _), h5, h6⟩
theorem ToAt.step {w w3 : World} {n k m b base' : Nat} {Z : List Value} {X : List Bx} {a : Bx} (h : ToAt w w3 n k Z X) (ha : X[k]? = some a) (hk : k < n) (hlt : ∀ y, (∃ Y, bxV Y = X.take k ∧ y ∈ Y) → True)
    (own : w3.ownsRow base' 3 1 (.slice (some ⟨b, 0, none⟩) m m) m (a.2.map (Value.int .i64))) (hb : w.heap.size < b) (hbb : w.heap.size ≤ base') (hnew : ∀ Y : List BxV, (∀ y ∈ Y, w3.ownsRow w.heap.size 3 1 y.2.2 y.2.1.length (y.2.1.map (Value.int .i64))) → bxV Y = X.take k → Z.take (k * 2) = wcells Y → ∀ y ∈ Y, y.2.2.ownBlock ≠ some b) :
    ToAt w ((w3.setCell ⟨w.heap.size, k * 2, none⟩ (.string a.1)).setCell ⟨w.heap.size, k * 2 + 1, none⟩ (.slice (some ⟨b, 0, none⟩) m m)) n (k + 1) ((Z.set (k * 2) (.string a.1)).set (k * 2 + 1) (.slice (some ⟨b, 0, none⟩) m m)) X := by
  obtain ⟨Y, h1, h2, h3, h4, h5, h6⟩ := h
  have hz := h3.1
  have s1 := h3.stored (k * 2) (.string a.1)
  have s2 := s1.1.stored (k * 2 + 1) (.slice (some ⟨b, 0, none⟩) m m)
  have hm : a.2.length = m := own_leni' own
  have keep : ∀ {e : TypeId} {size q : Nat} {v : Value} {xs : List Value}, w3.ownsRow w.heap.size e size v q xs → v.ownBlock ≠ some w.heap.size → ((w3.setCell ⟨w.heap.size, k * 2, none⟩ (.string a.1)).setCell ⟨w.heap.size, k * 2 + 1, none⟩ (.slice (some ⟨b, 0, none⟩) m m)).ownsRow w.heap.size e size v q xs := fun ho hne => (ho.kept (grown_set _ _ _) (.inr hne)).kept (grown_set _ _ _) (.inr hne)
  refine ⟨Y ++ [(a.1, a.2, .slice (some ⟨b, 0, none⟩) m m)], ?_, ?_, s2.1, ?_, ?_, ?_⟩
  · rw [List.take_add_one, ha, ← h1]; simp [bxV]
  · rw [take_two (by omega), h2, wcells_app]; rfl
  · intro y hy
    rcases List.mem_append.1 hy with h | h
    · exact keep (h4 y h) (fun e => by have := h5 y h _ e; omega)
    · rw [List.mem_singleton.1 h]
      rw [hm]
      exact keep (own_base own hbb) (fun e => by simp [Value.ownBlock] at e; omega)
  · intro y hy c hc
    rcases List.mem_append.1 hy with h | h
    · exact h5 y h c hc
    · rw [List.mem_singleton.1 h] at hc; simp [Value.ownBlock] at hc; omega
  · rw [List.pairwise_append]
    refine ⟨h6, List.pairwise_singleton _ _, fun y hy z hz c hc e => ?_⟩
    rw [List.mem_singleton.1 hz] at e
    simp [Value.ownBlock] at e
    subst e
    exact hnew Y h4 h1 h2 y hy hc

set_option maxHeartbeats 1000000 in
theorem e_toB (A : Option Addr) (n c : Nat) (X : List Bx) (w : World) (hX : Bxs w w.heap.size A n X) (hn : n ≤ 1048576) (hF : totI X ≤ 1048576) :
    Calls Try.prog 35 #[.slice A n c] w fun e w' => e = .returned (.slice (some ⟨w.heap.size, 0, none⟩) n n) ∧ NestX w.heap.size w' (some ⟨w.heap.size, 0, none⟩) n n X ∧ Below w.heap.size w w' := by
  obtain ⟨i0, hi0, hz0, hz1, hz2⟩ := info_parts' box_info
  have hU := Try.underlying31
  have hl := hide hX.1
  have HX := hide hX
  have HFt := hide hF
  clear hX hF
  have b1 : i0.bytes * n ≤ 281474976710656 := by rw [hz2]; omega
  have b2 : n ≤ maxLen := by unfold maxLen; omega
  go_enter Try.func35, Try.ntmps35
  go_wp2_with (at_make
               refine wpList_make_full _ rfl (.tmp 6) (.tmp 6) _ rfl w.heap.size 40 i0 _ 2 hU hi0 hz0 hz1 .i64 .i64 (n : Int) (n : Int) n rfl rfl rfl rfl b1 b2 (Nat.le_refl _) ?_
               intro w1 own1 gr1
               have hb1 : Below w.heap.size w w1 := (Below.refl _ _).grown gr1 (Nat.le_refl _) (by simp)
               clear gr1)
  go_loopw [4] (fun i wr => ∃ (k : Nat) (Z : List Value), k ≤ n ∧ i = .int .i64 k ∧ Hid (ToAt w wr n k Z X) ∧ Hid (Below w.heap.size w wr)) (fun i _ => n - (intOf i).toNat)
  case atStart => exact ⟨0, _, Nat.zero_le _, rfl, ⟨[], rfl, by simp [wcells], own1, fun y h => by simp at h, fun y h => by simp at h, List.Pairwise.nil⟩, hb1⟩
  case round =>
    obtain ⟨k, Z, hk, rfl, hto, hbr⟩ := hrel
    by_cases hlt : k < n
    · obtain ⟨a, ha⟩ : ∃ a, X[k]? = some a := ⟨X[k]'(by have := hl.out; omega), List.getElem?_eq_getElem _⟩
      obtain ⟨g, off, A', n', c', rfl, hg, hc0, hc1, hn', hm', hf⟩ := (HX.out.below hbr.out).at' ha
      have hsz := hbr.out.size
      have HF := hide (hf.ints.more hsz)
      have hn1 : n' ≤ 1048576 := by
        have h1 := HF.out.1
        have h2 := totI_take ha
        have h3 := totI_le (X := X) (k := k + 1)
        have h4 := HFt.out
        omega
      have Ha := hide ha
      clear hf ha
      go_wp2_with fail
      refine (e_toB1 a.1 A' n' c' a.2 _ HF.out hn1).mono ?_
      rintro e w3 ⟨b, rfl, own3, hb3⟩
      have hbb := (own3.lt b rfl).1
      have hwlt : w.heap.size < wr.heap.size := by
        obtain ⟨Y, _, _, h3, _⟩ := hto.out
        exact (h3.lt w.heap.size rfl).2
      have Hto3 := hide (hto.out.below hb3)
      have Hb3 := hide (hbr.out.trans (hb3.mono hsz))
      have hnew : ∀ Y : List BxV, (∀ y ∈ Y, w3.ownsRow w.heap.size 3 1 y.2.2 y.2.1.length (y.2.1.map (Value.int .i64))) → bxV Y = X.take k → Z.take (k * 2) = wcells Y → ∀ y ∈ Y, y.2.2.ownBlock ≠ some b := by
        intro Y h1 h2 h3 y hy e
        obtain ⟨Y2, g1, g2, _, g4, _, _⟩ := hto.out
        have e2 : wcells Y2 = wcells Y := g2.symm.trans h3
        have hl2 : Y2.length = Y.length := by have := congrArg List.length e2; rw [wcells_len, wcells_len] at this; omega
        obtain ⟨j, hj, ej⟩ := List.mem_iff_getElem.1 hy
        have hy1 : Y[j]? = some y := by rw [List.getElem?_eq_getElem hj, ej]
        have hy2 : Y2[j]? = some (Y2[j]'(by omega)) := List.getElem?_eq_getElem _
        have p1 := (wcells_at hy1).2
        have p2 := (wcells_at hy2).2
        rw [e2] at p2
        rw [p1] at p2
        injection p2 with p2
        have := (g4 _ (List.getElem_mem (by omega : j < Y2.length))).lt b (by rw [← p2]; exact e)
        omega
      have Hst := hide (hto.out.below hb3 |>.step Ha.out hlt (fun _ _ => trivial) own3 (by omega) hsz hnew)
      obtain ⟨z0, z1, hcz0, hcz1, hf0, hf1⟩ : ∃ z0 z1, w3.cell? ⟨w.heap.size, k * 2, none⟩ = some z0 ∧ w3.cell? ⟨w.heap.size, k * 2 + 1, none⟩ = some z1 ∧ w3.frozen? ⟨w.heap.size, k * 2, none⟩ = false ∧ w3.frozen? ⟨w.heap.size, k * 2 + 1, none⟩ = false := by
        obtain ⟨Y, _, _, h3, _⟩ := Hto3.out
        have hz := h3.1
        exact ⟨Z[k * 2]'(by omega), Z[k * 2 + 1]'(by omega), (h3.cellAt (k * 2) (by omega)).trans (List.getElem?_eq_getElem _), (h3.cellAt (k * 2 + 1) (by omega)).trans (List.getElem?_eq_getElem _), h3.frozenAt (k * 2), h3.frozenAt (k * 2 + 1)⟩
      have HB : Hid (Below w.heap.size w ((w3.setCell ⟨w.heap.size, k * 2, none⟩ (.string a.1)).setCell ⟨w.heap.size, k * 2 + 1, none⟩ (.slice (some ⟨b, 0, none⟩) n' n'))) := (Hb3.out.setCell (Nat.le_refl _) _).setCell (Nat.le_refl _) _
      clear hb3 hnew own3
      go_wp2_with fail
      go_roundw
      case rel => exact ⟨k + 1, _, by omega, by go_num, Hst.out, HB.out⟩
      case measure => simp [intOf]; omega
    · obtain ⟨Y, h1, h2, h3, h4, h5, h6⟩ := hto.out
      have hz := h3.1
      rw [List.take_of_length_le (by have := hl.out; omega)] at h1
      rw [List.take_of_length_le (by omega)] at h2
      rw [h2] at h3
      have HN : Hid (NestX w.heap.size wr (some ⟨w.heap.size, 0, none⟩) n n X) := ⟨Y, h1, h3, h4, fun y hy c hc e => by have := h5 y hy c hc; simp [Value.ownBlock] at e; omega, h6⟩
      clear h1 h2 h3 h4 h5 h6 hz
      go_wp2_with fail
      go_ret
      exact ⟨rfl, HN.out, hbr.out⟩

set_option maxHeartbeats 1000000 in
theorem e_eqB1 (a : Bx) (A : Option Addr) (n c : Nat) (B : Option Addr) (m d : Nat) (w : World) (hA : Ints w w.heap.size A n a.2) (hB : Ints w w.heap.size B m a.2) (hn : n ≤ maxLen) (hm : m ≤ maxLen) :
    Calls Try.prog 67 #[.agg #[.string a.1, .slice A n c], .agg #[.string a.1, .slice B m d]] w fun e w' => e = .returned (.bool true) ∧ Below w.heap.size w w' := by
  have Hbel : ∀ T S, Hid (Below w.heap.size w ((w.alloc (.cells #[.string a.1, .slice A n c] T)).alloc (.cells #[.string a.1, .slice B m d] S))) := fun T S => hide (((Below.refl _ _).alloc (Nat.le_refl _) _).alloc (by simp) _)
  have HA := hide hA
  have HB := hide hB
  clear hA hB
  go_enter Try.func67, Try.ntmps67
  go_wp2_with fail
  refine (e_eqI' A n c B m d a.2 _ (HA.out.on (Hbel _ _).out) (HB.out.on (Hbel _ _).out) hn).mono ?_
  rintro e w4 ⟨rfl, q4, rfl⟩
  go_wp2_with fail
  go_ret
  exact ⟨rfl, below_drewN (Hbel _ _).out q4⟩
theorem Later.eqB {B0 : Nat} {W : World} (z : Later B0 W) (a : Bx) (A : Option Addr) (n c : Nat) (B : Option Addr) (m d : Nat) (hA : Ints W B0 A n a.2) (hB : Ints W B0 B m a.2) (h0 : B0 ≤ W.heap.size) (hn : n ≤ maxLen) (hm : m ≤ maxLen) :
    Calls Try.prog 67 #[.agg #[.string a.1, .slice A n c], .agg #[.string a.1, .slice B m d]] z.it fun e w'' => e = .returned (.bool true) ∧ ∃ z' : Later B0 W, w'' = z'.it := by
  have hsz := z.below.size
  exact Later.call ((e_eqB1 a A n c B m d z.it ((hA.below z.below).more (by omega)) ((hB.below z.below).more (by omega)) hn hm).mono fun e w' ⟨h1, h2⟩ => ⟨h1, h2.mono (by omega)⟩)
set_option maxHeartbeats 1000000 in
theorem e_eqB (A : Option Addr) (n c : Nat) (B : Option Addr) (m d : Nat) (X : List Bx) (w : World) (hA : Bxs w w.heap.size A n X) (hB : Bxs w w.heap.size B m X) (hn : n ≤ maxLen) :
    Calls Try.prog 36 #[.slice A n c, .slice B m d] w fun e w' => e = .returned (.bool true) ∧ Below w.heap.size w w' := by
  unfold maxLen at hn
  have hl := hide hA.1
  have hnm : n = m := hA.1.symm.trans hB.1
  subst hnm
  have HA := hide hA
  have HB := hide hB
  clear hA hB
  go_enter Try.func36, Try.ntmps36
  go_wp2_with fail
  go_loopw [5] (fun i wr => ∃ k : Nat, k ≤ n ∧ i = .int .i64 k ∧ Hid (Below w.heap.size w wr)) (fun i _ => n - (intOf i).toNat)
  case atStart => exact ⟨0, Nat.zero_le _, rfl, Below.refl _ _⟩
  case round =>
    obtain ⟨k, hk, rfl, hbr⟩ := hrel
    by_cases hlt : k < n
    · obtain ⟨a, ha⟩ : ∃ a, X[k]? = some a := ⟨X[k]'(by have := hl.out; omega), List.getElem?_eq_getElem _⟩
      obtain ⟨g, off, A4, n4, c4, rfl, hg, hc0, hc1, hn4, hm4, hf⟩ := (HA.out.below hbr.out).at' ha
      obtain ⟨g2, off2, A5, n5, c5, rfl, hg2, hd0, hd1, hn5, hm5, hf2⟩ := (HB.out.below hbr.out).at' ha
      have hz0 : ∀ z : Later w.heap.size wr, z.it.cell? ⟨g, off + k * 2, none⟩ = some (.string a.1) := fun z => (z.cell hg).trans hc0
      have hz1 : ∀ z : Later w.heap.size wr, z.it.cell? ⟨g, off + k * 2 + 1, none⟩ = some (.slice A4 n4 c4) := fun z => (z.cell hg).trans hc1
      have hz2 : ∀ z : Later w.heap.size wr, z.it.cell? ⟨g2, off2 + k * 2, none⟩ = some (.string a.1) := fun z => (z.cell hg2).trans hd0
      have hz3 : ∀ z : Later w.heap.size wr, z.it.cell? ⟨g2, off2 + k * 2 + 1, none⟩ = some (.slice A5 n5 c5) := fun z => (z.cell hg2).trans hd1
      have HF : Hid (Ints wr w.heap.size A4 n4 a.2) := hf.ints
      have HF2 : Hid (Ints wr w.heap.size A5 n5 a.2) := hf2.ints
      have hsz := hbr.out.size
      clear hf hf2 hc0 hc1 hd0 hd1 ha
      go_wp2_with fail
      refine wp_region_later (B := w.heap.size) (by kernel_rfl) (by kernel_rfl) ?_
      repeat (go_big_quiet_step ((go_at_call 67; exact Later.eqB _ a A4 n4 c4 A5 n5 c5 HF.out HF2.out hsz hm4 hm5)))
      refine wpQuiet_nil ?_
      intro _ hw'
      obtain ⟨⟨w5, hb5⟩, hw''⟩ := hw'
      subst hw''
      have Hb5 := hide hb5
      clear hb5
      go_wp2_with fail
      go_roundw
      case rel => exact ⟨k + 1, by omega, by go_num, hbr.out.trans Hb5.out⟩
      case measure => simp [intOf]; omega
    · go_wp2_with fail
      go_ret
      exact ⟨rfl, hbr.out⟩
end Go.Proofs.Ytfncmkmhdddmiaa
