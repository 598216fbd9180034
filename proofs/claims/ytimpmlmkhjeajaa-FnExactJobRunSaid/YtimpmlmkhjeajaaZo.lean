/- Texts joined: ExJ, ExB, ExB2, ExB3. -/
import Derived.Test.YtimpmlmkhjeajaaZm
import Derived.Test.YtimpmlmkhjeajaaZc
import Derived.Test.YtimpmlmkhjeajaaZh

/- Words of the exact laws: numbers. -/
set_option linter.unusedVariables false
set_option linter.unusedSimpArgs false
namespace Go.Proofs.Ytimpmlmkhjeajaa
open Go.RowKit

set_option maxHeartbeats 1000000 in
theorem e_eqI' (A : Option Addr) (n c : Nat) (B : Option Addr) (m d : Nat) (X : List Int) (w : World) (hL : Ints w w.heap.size A n X) (hM : Ints w w.heap.size B m X) (hn : n ≤ maxLen) :
    Calls Try.prog 122 #[.slice A n c, .slice B m d] w fun e w' => e = .returned (.bool true) ∧ ∃ q, w' = w.drewN q := by
  unfold maxLen at hn
  have hnm : n = m := hL.1.symm.trans hM.1
  subst hnm
  have hl := hide hL.1
  have HL := hide hL
  have HM := hide hM
  clear hL hM
  go_enter Try.func122, Try.ntmps122
  go_wp2_with fail
  go_loopw [5] (fun i wr => ∃ k q : Nat, k ≤ n ∧ i = .int .i64 k ∧ wr = w.drewN q) (fun i _ => n - (intOf i).toNat)
  case atStart => exact ⟨0, 0, Nat.zero_le _, rfl, rfl⟩
  case round =>
    obtain ⟨k, q, hk, rfl, rfl⟩ := hrel
    by_cases hlt : k < n
    · obtain ⟨a, ha⟩ : ∃ a, X[k]? = some a := ⟨X[k]'(by have := hl.out; omega), List.getElem?_eq_getElem _⟩
      obtain ⟨g, off, rfl, hg, hc⟩ := HL.out.at' ha
      obtain ⟨g2, off2, rfl, hg2, hd⟩ := HM.out.at' ha
      skip
      clear ha
      go_wp2_with fail
      go_quiet (fail)
      go_wp2_with fail
      go_roundw
      case rel => exact ⟨k + 1, _, by omega, by go_num, by first | rfl | exact World.drewN_drewN _ _ _⟩
      case measure => simp [intOf]; omega
    · go_wp2_with fail
      go_ret
      exact ⟨rfl, _, rfl⟩
theorem e_eqI (A : Option Addr) (n c : Nat) (B : Option Addr) (m d : Nat) (X : List Int) (w : World) (hL : Ints w w.heap.size A n X) (hM : Ints w w.heap.size B m X) (hn : n ≤ maxLen) :
    Calls Try.prog 122 #[.slice A n c, .slice B m d] w fun e w' => e = .returned (.bool true) ∧ Below w.heap.size w w' :=
  (e_eqI' A n c B m d X w hL hM hn).mono fun _ _ ⟨h, q, e⟩ => ⟨h, e ▸ below_drewN' _ _ q⟩

def marksI (k n : Nat) : List Int := (List.range n).map fun j => ((k + j : Nat) : Int)
theorem marksI_len (k n : Nat) : (marksI k n).length = n := by simp [marksI]
theorem marksI_at {k n j : Nat} (h : j < n) : (marksI k n)[j]? = some ((k + j : Nat) : Int) := by simp [marksI, h]
set_option maxHeartbeats 1000000 in
theorem e_marksI (base : Nat) (A : Option Addr) (n c k : Nat) (L : List Int) (w : World) (own : w.ownsRow base 3 1 (.slice A n c) n (L.map (Value.int .i64))) (hk : 1 ≤ k) (hk2 : k ≤ 1500000) (hn : n ≤ 2000000) :
    Calls Try.prog 98 #[.slice A n c, .int .i64 k] w fun e w' => e = .returned (.int .i64 ((k + n : Nat) : Int)) ∧ w'.ownsRow base 3 1 (.slice A n c) n ((marksI k n).map (Value.int .i64)) ∧ w.grownBy w' (Value.slice A n c).ownBlock := by
  rcases own_form own with ⟨rfl, rfl⟩ | ⟨b, rfl⟩
  · go_enter Try.func98, Try.ntmps98
    go_wp2_with fail
    go_loopw [1, 5] (fun r i wr => r = .int .i64 k ∧ i = .int .i64 0 ∧ wr = w) (fun _ _ _ => 0)
    case atStart => exact ⟨rfl, rfl, rfl⟩
    case round =>
      obtain ⟨rfl, rfl, rfl⟩ := hrel
      go_wp2_with fail
      go_ret
      have hL0 : L = [] := List.eq_nil_of_length_eq_zero (by have h := own.1; rw [List.length_map] at h; omega)
      rw [hL0] at own
      exact ⟨rfl, own, World.grownBy.refl _ _⟩
  · have Own := hide own
    clear own
    go_enter Try.func98, Try.ntmps98
    go_wp2_with fail
    go_loopw [1, 5] (fun r i wr => ∃ (j : Nat) (Z : List Value), j ≤ n ∧ r = .int .i64 ((k + j : Nat) : Int) ∧ i = .int .i64 j ∧ wr.ownsRow base 3 1 (.slice (some ⟨b, 0, none⟩) n c) n Z ∧ Hid (∀ i, i < j → Z[i]? = some (.int .i64 ((k + i : Nat) : Int))) ∧ Hid (w.grownBy wr (some b))) (fun _ i _ => n - (intOf i).toNat)
    case atStart => exact ⟨0, _, Nat.zero_le _, rfl, rfl, Own.out, fun i h => absurd h (by omega), World.grownBy.refl _ _⟩
    case round =>
      obtain ⟨j, Z, hj, rfl, rfl, hown, hu, hgr⟩ := hrel
      have hz := hide hown.1
      have Hown := hide hown
      clear hown
      by_cases hlt : j < n
      · obtain ⟨z, hzk⟩ : ∃ z, Z[j]? = some z := ⟨Z[j]'(by have := hz.out; omega), List.getElem?_eq_getElem _⟩
        have hcz : wr.cell? ⟨b, j, none⟩ = some z := (Hown.out.cellAt j (by omega)).trans hzk
        have hfz : wr.frozen? ⟨b, j, none⟩ = false := Hown.out.frozenAt j
        have hst := hide (Hown.out.stored j (.int .i64 ((k + j : Nat) : Int)))
        have H : Hid (∀ i, i < j + 1 → (Z.set j (.int .i64 ((k + j : Nat) : Int)))[i]? = some (.int .i64 ((k + i : Nat) : Int))) := fun i hi => by
          by_cases e : i = j
          · subst e; exact List.getElem?_set_self (by have := hz.out; omega)
          · rw [List.getElem?_set_ne (by omega)]; exact hu.out i (by omega)
        clear hzk
        go_wp2_with fail
        go_roundw
        case rel => exact ⟨j + 1, _, by omega, by go_num, by go_num, hst.out.1, H, grown_tr hgr.out hst.out.2⟩
        case measure => simp [intOf]; omega
      · obtain rfl : j = n := by omega
        have HZ : Hid (Z = (marksI k j).map (Value.int .i64)) := by
          have h1 := hz.out
          have h3 := hu.out
          apply List.ext_getElem? ; intro i
          rcases Nat.lt_or_ge i j with hi | hi
          · rw [h3 i hi, List.getElem?_map, marksI_at hi]; rfl
          · rw [List.getElem?_eq_none (by omega), List.getElem?_eq_none (by rw [List.length_map, marksI_len]; omega)]
        go_wp2_with fail
        go_ret
        exact ⟨rfl, by rw [← HZ.out]; exact Hown.out, hgr.out⟩
set_option maxHeartbeats 1000000 in
theorem e_heldI (A : Option Addr) (n c k : Nat) (w : World) (hL : Ints w w.heap.size A n (marksI k n)) (hk : 1 ≤ k) (hk2 : k ≤ 1500000) (hn : n ≤ 2000000) :
    Calls Try.prog 99 #[.slice A n c, .int .i64 k] w fun e w' => e = .returned (.int .i64 ((k + n : Nat) : Int)) ∧ Below w.heap.size w w' := by
  have HL := hide hL
  clear hL
  go_enter Try.func99, Try.ntmps99
  go_wp2_with fail
  go_loopw [1, 5] (fun r i wr => ∃ (j : Nat), j ≤ n ∧ r = .int .i64 ((k + j : Nat) : Int) ∧ i = .int .i64 j ∧ wr = w) (fun _ i _ => n - (intOf i).toNat)
  case atStart => exact ⟨0, Nat.zero_le _, rfl, rfl, rfl⟩
  case round =>
    obtain ⟨j, hj, rfl, rfl, rfl⟩ := hrel
    by_cases hlt : j < n
    · obtain ⟨g, off, rfl, hgb, hc0⟩ := HL.out.at' (marksI_at hlt)
      go_wp2_with fail
      go_roundw
      case rel => exact ⟨j + 1, by omega, by go_num, by go_num, by first | trivial | rfl⟩
      case measure => simp [intOf]; omega
    · obtain rfl : j = n := by omega
      go_wp2_with fail
      go_ret
      exact ⟨rfl, Below.refl _ _⟩

theorem own1I_row {w w' : World} {L : List Int} {e : Ending} (h : Own1I w L e w') : ∃ A n c, ∃ z : Int, e = .returned (.slice A n c) ∧ Hid (z = 0) ∧ w'.ownsRow w.heap.size 3 1 (.slice A n c) n (L.map (Value.int .i64)) ∧ Below w.heap.size w w' := by
  obtain ⟨v, rfl, ⟨A, n, c, rfl, h1⟩, hb⟩ := h
  exact ⟨A, n, c, 0, rfl, rfl, h1, hb⟩
end Go.Proofs.Ytimpmlmkhjeajaa

/- Words of the exact laws of boxes: sizes, copies. -/
set_option linter.unusedVariables false
set_option linter.unusedSimpArgs false
namespace Go.Proofs.Ytimpmlmkhjeajaa
open Go.RowKit Go.BigFrame

/-- A size is returned: below 0, or all is small; m things of it are used up. -/
def SzR (m : Nat) (left : Nat) (e : Ending) : Prop := (e = .returned (.int .i64 (-1))) ∨ ∃ r : Nat, e = .returned (.int .i64 r) ∧ r + m ≤ left
theorem e_szI (A : Option Addr) (n c : Nat) (left : Nat) (w : World) (hn : n ≤ maxLen) (hl2 : left ≤ 1048576) :
    Calls Try.prog 120 #[.slice A n c, .int .i64 left] w fun e w' => SzR n left e ∧ w = w' := by
  unfold maxLen at hn
  by_cases h0 : left < n
  · have hneg : (left : Int) - (n : Int) < 0 := by omega
    go_enter Try.func120, Try.ntmps120
    go_wp2_with fail
    go_ret
    exact ⟨.inl rfl, rfl⟩
  · obtain ⟨d, hd⟩ : ∃ d, left = d + n := ⟨left - n, by omega⟩
    have hneg : ¬ ((left : Int) - (n : Int) < 0) := by omega
    have hd2 : (left : Int) - (n : Int) = (d : Int) := by omega
    have Hd := hide hd
    clear hd h0
    go_enter Try.func120, Try.ntmps120
    go_wp2_with fail
    go_ret
    exact ⟨.inr ⟨d, rfl, by have := Hd.out; omega⟩, rfl⟩

set_option maxHeartbeats 1000000 in
theorem e_szB1 (nm : ByteArray) (A : Option Addr) (n c : Nat) (F : List Int) (x : Nat) (w : World) (hF : Ints w w.heap.size A n F) (hn : n ≤ maxLen) (hs : nm.size ≤ maxLen) (hx : x ≤ 1048576) :
    Calls Try.prog 95 #[.agg #[.string nm, .slice A n c], .int .i64 x] w fun e w' => SzR n x e ∧ Below w.heap.size w w' := by
  unfold maxLen at hs
  have HF : ∀ T, Hid (Ints (w.alloc (.cells #[.string nm, .slice A n c] T)) (w.alloc (.cells #[.string nm, .slice A n c] T)).heap.size A n F) := fun T => hide (hF.on ((Below.refl _ _).alloc (Nat.le_refl _) _))
  have HN := hide hn
  clear hF hn
  by_cases h : x < nm.size
  · have h2 : (x : Int) - (nm.size : Int) < 0 := by omega
    go_enter Try.func95, Try.ntmps95
    go_wp2_with fail
    go_ret
    exact ⟨.inl rfl, (Below.refl _ _).alloc (Nat.le_refl _) _⟩
  · have h2 : ¬ ((x : Int) - (nm.size : Int) < 0) := by omega
    obtain ⟨y, hy⟩ : ∃ y : Nat, y = x - nm.size := ⟨_, rfl⟩
    have hy2 : (x : Int) - (nm.size : Int) = (y : Int) := by omega
    have hy3 : y ≤ x := by omega
    clear hy h
    go_enter Try.func95, Try.ntmps95
    go_wp2_with fail
    refine (e_szI A n c y _ HN.out (by omega)).mono ?_
    rintro e w' ⟨h, rfl⟩
    rcases h with rfl | ⟨r, rfl, hr⟩
    · go_wp2_with fail
      go_ret
      exact ⟨.inl rfl, (Below.refl _ _).alloc (Nat.le_refl _) _⟩
    · have hr0 : ¬ ((r : Int) < 0) := by omega
      go_wp2_with fail
      go_ret
      exact ⟨.inr ⟨r, rfl, by omega⟩, (Below.refl _ _).alloc (Nat.le_refl _) _⟩

/-- How many followers there are. -/
def totI (X : List Bx) : Nat := (X.map fun a => a.2.length).sum
theorem totI_take {X : List Bx} {k : Nat} {a : Bx} (h : X[k]? = some a) : totI (X.take (k + 1)) = totI (X.take k) + a.2.length := by
  unfold totI; rw [List.take_add_one, h]; simp
theorem totI_le {X : List Bx} {k : Nat} : totI (X.take k) ≤ totI X := by
  have e : totI X = totI (X.take k) + totI (X.drop k) := by
    unfold totI
    conv => lhs; rw [← List.take_append_drop k X]
    rw [List.map_append, List.sum_append]
  omega
set_option maxHeartbeats 1000000 in
theorem e_szB (A : Option Addr) (n c : Nat) (X : List Bx) (left : Nat) (w : World) (hX : Bxs w w.heap.size A n X) (hS : BSmall X) (hn : n ≤ maxLen) (hl2 : left ≤ 1048576) :
    Calls Try.prog 52 #[.slice A n c, .int .i64 left] w fun e w' => SzR (n + totI X) left e ∧ Below w.heap.size w w' := by
  unfold maxLen at hn
  have hl := hide hX.1
  have HX := hide hX
  have HS := hide hS
  clear hX hS
  by_cases h0 : left < n
  · have hlt : (left : Int) < (n : Int) := by omega
    go_enter Try.func52, Try.ntmps52
    go_wp2_with fail
    go_ret
    exact ⟨.inl rfl, Below.refl _ _⟩
  obtain ⟨d, hd⟩ : ∃ d, left = d + n := ⟨left - n, by omega⟩
  have hneg : ¬ ((left : Int) - (n : Int) < 0) := by omega
  have Hd := hide hd
  clear hd h0
  go_enter Try.func52, Try.ntmps52
  go_wp2_with fail
  go_loopw [1, 5] (fun r i wr => ∃ k x : Nat, k ≤ n ∧ i = .int .i64 k ∧ r = .int .i64 x ∧ Hid (x + totI (X.take k) ≤ d) ∧ Hid (Below w.heap.size w wr)) (fun _ i _ => n - (intOf i).toNat)
  case atStart => exact ⟨0, d, Nat.zero_le _, rfl, by have := Hd.out; go_num, by simp [Hid, totI], Below.refl _ _⟩
  case round =>
    obtain ⟨k, x, hk, rfl, rfl, hx, hbr⟩ := hrel
    by_cases hlt : k < n
    · obtain ⟨a, ha⟩ : ∃ a, X[k]? = some a := ⟨X[k]'(by have := hl.out; omega), List.getElem?_eq_getElem _⟩
      obtain ⟨g, off, A', n', c', rfl, hg, hc0, hc1, hn', hm', hf⟩ := (HX.out.below hbr.out).at' ha
      have hsm := HS.out a (List.mem_of_getElem? ha)
      have Hsm := hide hsm
      have hsz := hbr.out.size
      have HF := hide (hf.ints.more hsz)
      have hE := hide (totI_take ha)
      have hlen := hide (HF.out.1)
      clear ha hf hsm
      go_wp2_with fail
      refine (e_szB1 a.1 A' n' c' a.2 x _ HF.out hm' Hsm.out (by have := Hd.out; have := hx.out; omega)).mono ?_
      rintro e w2 ⟨h, hb2⟩
      have Hb2 := hide (hbr.out.trans (hb2.mono hsz))
      clear hb2
      rcases h with rfl | ⟨r, rfl, hr⟩
      · go_wp2_with fail
        go_ret
        exact ⟨.inl rfl, Hb2.out⟩
      · have hr0 : ¬ ((r : Int) < 0) := by omega
        have Hr := hide hr
        clear hr
        go_wp2_with fail
        go_roundw
        case rel => exact ⟨k + 1, r, by omega, by go_num, by go_num, by show _ ≤ _; have h1 := hE.out; have h2 := hx.out; have h3 := Hr.out; have h4 := hlen.out; omega, Hb2.out⟩
        case measure => simp [intOf]; omega
    · have hR : X.take k = X := List.take_of_length_le (by have := hl.out; omega)
      have h2 := hx.out
      rw [hR] at h2
      have H2 := hide h2
      clear hR h2
      go_wp2_with fail
      go_ret
      exact ⟨.inr ⟨x, rfl, by have := Hd.out; have := H2.out; omega⟩, hbr.out⟩

set_option maxHeartbeats 1000000 in
theorem e_toI (A : Option Addr) (n c : Nat) (L : List Int) (w : World) (hL : Ints w w.heap.size A n L) (hn : n ≤ 1048576) :
    Calls Try.prog 121 #[.slice A n c] w fun e w' => e = .returned (.slice (some ⟨w.heap.size, 0, none⟩) n n) ∧ w'.ownsRow w.heap.size 3 1 (.slice (some ⟨w.heap.size, 0, none⟩) n n) n (L.map (Value.int .i64)) ∧ Below w.heap.size w w' := by
  obtain ⟨i0, hi0, hz0, hz1, hz2⟩ := info_parts' int_info
  have hU := Try.underlying47
  have hl := hide hL.1
  have HL := hide hL.2
  clear hL
  have b1 : i0.bytes * n ≤ 281474976710656 := by rw [hz2]; omega
  have b2 : n ≤ maxLen := by unfold maxLen; omega
  go_enter Try.func121, Try.ntmps121
  go_wp2_with (at_make
               refine wpList_make_full _ rfl (.tmp 6) (.tmp 6) _ rfl w.heap.size 3 i0 _ 1 hU hi0 hz0 hz1 .i64 .i64 (n : Int) (n : Int) n rfl rfl rfl rfl b1 b2 (Nat.le_refl _) ?_
               intro w1 own1 gr1
               have hb1 : Below w.heap.size w w1 := (Below.refl _ _).grown gr1 (Nat.le_refl _) (by simp)
               clear gr1)
  go_loopw [4] (fun i wr => ∃ (k : Nat) (Z : List Value), k ≤ n ∧ i = .int .i64 k ∧ wr.ownsRow w.heap.size 3 1 (.slice (some ⟨w.heap.size, 0, none⟩) n n) n Z ∧ Hid (∀ j s, j < k → L[j]? = some s → Z[j]? = some (.int .i64 s)) ∧ Below w.heap.size w wr) (fun i _ => n - (intOf i).toNat)
  case atStart => exact ⟨0, _, Nat.zero_le _, rfl, own1, fun j s h => absurd h (by omega), hb1⟩
  case round =>
    obtain ⟨k, Z, hk, rfl, hown, hu, hbr⟩ := hrel
    have hz := hide hown.1
    by_cases hlt : k < n
    · obtain ⟨g, off, rfl, hb, hc⟩ := HL.out (by omega)
      obtain ⟨t, ht⟩ : ∃ t, L[k]? = some t := ⟨L[k]'(by have := hl.out; omega), List.getElem?_eq_getElem _⟩
      have hck : wr.cell? ⟨g, off + k, none⟩ = some (.int .i64 t) := (hbr.cell hb).trans (hc k t ht)
      obtain ⟨z, hzk⟩ : ∃ z, Z[k]? = some z := ⟨Z[k]'(by have := hz.out; omega), List.getElem?_eq_getElem _⟩
      have hcz : wr.cell? ⟨w.heap.size, k, none⟩ = some z := (hown.cellAt k (by omega)).trans hzk
      have hfz : wr.frozen? ⟨w.heap.size, k, none⟩ = false := hown.frozenAt k
      have hst := (hown.stored k (.int .i64 t)).1
      have H : Hid (∀ j s, j < k + 1 → L[j]? = some s → (Z.set k (.int .i64 t))[j]? = some (.int .i64 s)) := fun j s hj hs => by
        by_cases e : j = k
        · subst e; rw [ht] at hs; cases hs
          exact List.getElem?_set_self (by have := hz.out; omega)
        · rw [List.getElem?_set_ne (by omega)]
          exact hu.out j s (by omega) hs
      clear ht hc hzk
      go_wp2_with fail
      go_roundw
      case rel => exact ⟨k + 1, _, by omega, by go_num, hst, H, hbr.setCell (Nat.le_refl _) _⟩
      case measure => simp [intOf]; omega
    · have HZ : Hid (Z = L.map (Value.int .i64)) := by
        have h1 := hz.out
        have h2 := hl.out
        have h3 := hu.out
        apply List.ext_getElem? ; intro j
        rcases Nat.lt_or_ge j n with hj | hj
        · have hs : L[j]? = some (L[j]'(by omega)) := List.getElem?_eq_getElem _
          rw [h3 j _ (by omega) hs, List.getElem?_map, hs]; rfl
        · rw [List.getElem?_eq_none (by omega), List.getElem?_eq_none (by simp; omega)]
      go_wp2_with fail
      go_ret
      exact ⟨rfl, by rw [← HZ.out]; exact hown, hbr⟩

set_option maxHeartbeats 1000000 in
theorem e_toB1 (nm : ByteArray) (A : Option Addr) (n c : Nat) (F : List Int) (w : World) (hF : Ints w w.heap.size A n F) (hn : n ≤ 1048576) :
    Calls Try.prog 96 #[.agg #[.string nm, .slice A n c]] w fun e w' => ∃ b, e = .returned (.agg #[.string nm, .slice (some ⟨b, 0, none⟩) n n]) ∧ w'.ownsRow w.heap.size 3 1 (.slice (some ⟨b, 0, none⟩) n n) n (F.map (Value.int .i64)) ∧ Below w.heap.size w w' := by
  have hb3 : ∀ T S U cs ds es, Below w.heap.size w (((w.alloc (.cells cs T)).alloc (.cells ds S)).alloc (.cells es U)) := fun T S U cs ds es => (((Below.refl _ _).alloc (Nat.le_refl _) _).alloc (by simp) _).alloc (by simp; omega) _
  have Hb3 := hide hb3
  have HF := hide hF
  clear hb3 hF
  go_enter Try.func96, Try.ntmps96
  go_wp2_with fail
  have B1 : Blk (((w.alloc (.cells #[.string nm, .slice A n c] 121)).alloc (.cells #[.string { data := #[] }, .slice none 0 0] 55)).alloc (.cells #[.string nm, .slice none 0 0] 55)) (w.heap.size + 1) 55 #[.string { data := #[] }, .slice none 0 0] := by
    have h := (Blk.new (w.alloc (.cells #[.string nm, .slice A n c] 121)) 55 #[.string { data := #[] }, .slice none 0 0]).alloc (.cells #[.string nm, .slice none 0 0] 55)
    rw [World.size_alloc] at h
    exact h
  have B2 : Blk (((w.alloc (.cells #[.string nm, .slice A n c] 121)).alloc (.cells #[.string { data := #[] }, .slice none 0 0] 55)).alloc (.cells #[.string nm, .slice none 0 0] 55)) (w.heap.size + 1 + 1) 55 #[.string nm, .slice none 0 0] := by
    have h := Blk.new ((w.alloc (.cells #[.string nm, .slice A n c] 121)).alloc (.cells #[.string { data := #[] }, .slice none 0 0] 55)) 55 #[.string nm, .slice none 0 0]
    rw [World.size_alloc, World.size_alloc] at h
    exact h
  have hs3 : (((w.alloc (.cells #[.string nm, .slice A n c] 121)).alloc (.cells #[.string { data := #[] }, .slice none 0 0] 55)).alloc (.cells #[.string nm, .slice none 0 0] 55)).heap.size = w.heap.size + 3 := by simp
  have Hb03 := hide (Hb3.out 121 55 55 #[.string nm, .slice A n c] #[.string { data := #[] }, .slice none 0 0] #[.string nm, .slice none 0 0])
  have HB1 := hide B1
  have HB2 := hide B2
  have Hs3 := hide hs3
  clear B1 B2 hs3 Hb3
  generalize ((w.alloc (.cells #[.string nm, .slice A n c] 121)).alloc (.cells #[.string { data := #[] }, .slice none 0 0] 55)).alloc (.cells #[.string nm, .slice none 0 0] 55) = w3 at *
  refine (e_toI A n c F _ (HF.out.on Hb03.out) hn).mono ?_
  rintro e w4 ⟨rfl, own4, hb4⟩
  rw [Hs3.out] at own4 ⊢
  have hs4 := (own4.lt _ rfl).2
  have H1 := hide (HB1.out.below hb4 (by have := Hs3.out; omega))
  have H2 := hide (HB2.out.below hb4 (by have := Hs3.out; omega))
  have hc10 : w4.cell? ⟨w.heap.size + 1, 0, none⟩ = some (.string { data := #[] }) := H1.out.cell 0
  have hc11 : w4.cell? ⟨w.heap.size + 1, 1, none⟩ = some (.slice none 0 0) := H1.out.cell 1
  have hf10 : w4.frozen? ⟨w.heap.size + 1, 0, none⟩ = false := H1.out.frozen 0
  have hf11 : w4.frozen? ⟨w.heap.size + 1, 1, none⟩ = false := H1.out.frozen 1
  have hc20 : w4.cell? ⟨w.heap.size + 1 + 1, 0, none⟩ = some (.string nm) := H2.out.cell 0
  have hc21 : w4.cell? ⟨w.heap.size + 1 + 1, 1, none⟩ = some (.slice none 0 0) := H2.out.cell 1
  have hf21 : w4.frozen? ⟨w.heap.size + 1 + 1, 1, none⟩ = false := H2.out.frozen 1
  have Hb4 := hide (Hb03.out.trans (hb4.mono Hb03.out.size))
  have Own4 := hide own4
  clear hb4 own4
  go_wp2_with fail
  have K := ((H1.out.far (p := ⟨w.heap.size + 1 + 1, 1, none⟩) (show w.heap.size + 1 ≠ w.heap.size + 1 + 1 by omega) (.slice (some ⟨w.heap.size + 3, 0, none⟩) n n)).set_ 0 (.string nm)).set_ 1 (.slice (some ⟨w.heap.size + 3, 0, none⟩) n n)
  have k0 := K.cell 0
  have k1 := K.cell 1
  simp at k0 k1
  refine bodyPost_ret (v := .agg #[.string nm, .slice (some ⟨w.heap.size + 3, 0, none⟩) n n]) (by simp [results, Try.results96, go_sem, k0, k1]) rfl ⟨w.heap.size + 3, rfl, ?_, ?_⟩
  · have o1 := own_base Own4.out (show w.heap.size ≤ w.heap.size + 3 by omega)
    have g : ∀ (W : World) (p : Addr) (v : Value), W.grownBy (W.setCell p v) (some p.block) := fun W p v => ⟨rfl, rfl, rfl, by simp, fun k _ hk => heap_setCell_other W p k v (fun e => hk (by simp [e]))⟩
    have ne : ∀ q, q < w.heap.size + 3 → (Value.slice (some ⟨w.heap.size + 3, 0, none⟩) n n).ownBlock ≠ some q := fun q hq e => by simp [Value.ownBlock] at e; omega
    exact ((o1.kept (g _ _ _) (.inr (ne _ (by show w.heap.size + 1 + 1 < _; omega)))).kept (g _ _ _) (.inr (ne _ (by show w.heap.size + 1 < _; omega)))).kept (g _ _ _) (.inr (ne _ (by show w.heap.size + 1 < _; omega)))
  · exact ((Hb4.out.setCell (p := ⟨w.heap.size + 1 + 1, 1, none⟩) (by show w.heap.size ≤ w.heap.size + 1 + 1; omega) _).setCell (p := ⟨w.heap.size + 1, 0, none⟩) (by show w.heap.size ≤ w.heap.size + 1; omega) _).setCell (p := ⟨w.heap.size + 1, 1, none⟩) (by show w.heap.size ≤ w.heap.size + 1; omega) _
end Go.Proofs.Ytimpmlmkhjeajaa

/- Words of the exact laws of boxes: copies, equality. -/
set_option linter.unusedVariables false
set_option linter.unusedSimpArgs false
namespace Go.Proofs.Ytimpmlmkhjeajaa
open Go.RowKit Go.BigFrame

theorem grown_set (W : World) (p : Addr) (v : Value) : W.grownBy (W.setCell p v) (some p.block) := ⟨rfl, rfl, rfl, by simp, fun k _ hk => heap_setCell_other W p k v (fun e => hk (by simp [e]))⟩
theorem take_two {Z : List Value} {k : Nat} {x y : Value} (hz : k * 2 + 1 < Z.length) : ((Z.set (k * 2) x).set (k * 2 + 1) y).take ((k + 1) * 2) = Z.take (k * 2) ++ [x, y] := by
  apply List.ext_getElem?; intro j
  rw [List.getElem?_take]
  have htl : (Z.take (k * 2)).length = k * 2 := by rw [List.length_take]; omega
  rcases Nat.lt_trichotomy j (k * 2) with hj | hj | hj
  · rw [if_pos (by omega), List.getElem?_set_ne (by omega), List.getElem?_set_ne (by omega), List.getElem?_append_left (by omega), List.getElem?_take, if_pos hj]
  · subst hj
    rw [if_pos (by omega), List.getElem?_set_ne (by omega), List.getElem?_set_self (by omega), List.getElem?_append_right (by omega), htl, Nat.sub_self]; rfl
  · rw [List.getElem?_append_right (by omega), htl]
    by_cases e : j = k * 2 + 1
    · subst e
      rw [if_pos (by omega), List.getElem?_set_self (by simp; omega), show k * 2 + 1 - k * 2 = 1 by omega]; rfl
    · rw [if_neg (by omega), List.getElem?_eq_none (by simp; omega)]
def NestX (base : Nat) (w : World) (A : Option Addr) (n c : Nat) (X : List Bx) : Prop := ∃ Y, bxV Y = X ∧ NestB base w A n c Y
theorem own_leni' {w : World} {base m : Nat} {e : TypeId} {v : Value} {L : List Int} (h : w.ownsRow base e 1 v m (L.map (Value.int .i64))) : L.length = m := by have := h.1; rw [List.length_map, Nat.mul_one] at this; exact this
/-- toBoxS behind k rounds. -/
def ToAt (w wr : World) (n k : Nat) (Z : List Value) (X : List Bx) : Prop :=
  ∃ Y, bxV Y = X.take k ∧ Z.take (k * 2) = wcells Y ∧ wr.ownsRow w.heap.size 55 2 (.slice (some ⟨w.heap.size, 0, none⟩) n n) n Z ∧
    (∀ y ∈ Y, wr.ownsRow w.heap.size 3 1 y.2.2 y.2.1.length (y.2.1.map (Value.int .i64))) ∧ (∀ y ∈ Y, ∀ b, y.2.2.ownBlock = some b → w.heap.size < b) ∧ Y.Pairwise fun y z => ∀ b, y.2.2.ownBlock = some b → z.2.2.ownBlock ≠ some b
theorem ToAt.below {w wr w3 : World} {n k : Nat} {Z : List Value} {X : List Bx} (h : ToAt w wr n k Z X) (hb : Below wr.heap.size wr w3) : ToAt w w3 n k Z X := by
  obtain ⟨Y, h1, h2, h3, h4, h5, h6⟩ := h
  exact ⟨Y, h1, h2, h3.kept (grown_of_below hb (row := none)) (.inr (by simp [Value.ownBlock])), fun y hy => (h4 y hy).kept (grown_of_below hb (row := none)) (Classical.em _), h5, h6⟩
theorem ToAt.step {w w3 : World} {n k m b base' : Nat} {Z : List Value} {X : List Bx} {a : Bx} (h : ToAt w w3 n k Z X) (ha : X[k]? = some a) (hk : k < n) (hlt : ∀ y, (∃ Y, bxV Y = X.take k ∧ y ∈ Y) → True)
    (own : w3.ownsRow base' 3 1 (.slice (some ⟨b, 0, none⟩) m m) m (a.2.map (Value.int .i64))) (hb : w.heap.size < b) (hbb : w.heap.size ≤ base') (hnew : ∀ Y : List BxV, (∀ y ∈ Y, w3.ownsRow w.heap.size 3 1 y.2.2 y.2.1.length (y.2.1.map (Value.int .i64))) → bxV Y = X.take k → Z.take (k * 2) = wcells Y → ∀ y ∈ Y, y.2.2.ownBlock ≠ some b) :
    ToAt w ((w3.setCell ⟨w.heap.size, k * 2, none⟩ (.string a.1)).setCell ⟨w.heap.size, k * 2 + 1, none⟩ (.slice (some ⟨b, 0, none⟩) m m)) n (k + 1) ((Z.set (k * 2) (.string a.1)).set (k * 2 + 1) (.slice (some ⟨b, 0, none⟩) m m)) X := by
  obtain ⟨Y, h1, h2, h3, h4, h5, h6⟩ := h
  have hz := h3.1
  have s1 := h3.stored (k * 2) (.string a.1)
  have s2 := s1.1.stored (k * 2 + 1) (.slice (some ⟨b, 0, none⟩) m m)
  have hm : a.2.length = m := own_leni' own
  have keep : ∀ {e : TypeId} {size q : Nat} {v : Value} {xs : List Value}, w3.ownsRow w.heap.size e size v q xs → v.ownBlock ≠ some w.heap.size → ((w3.setCell ⟨w.heap.size, k * 2, none⟩ (.string a.1)).setCell ⟨w.heap.size, k * 2 + 1, none⟩ (.slice (some ⟨b, 0, none⟩) m m)).ownsRow w.heap.size e size v q xs := fun ho hne => (ho.kept (grown_set _ _ _) (.inr hne)).kept (grown_set _ _ _) (.inr hne)
  refine ⟨Y ++ [(a.1, a.2, .slice (some ⟨b, 0, none⟩) m m)], ?_, ?_, s2.1, ?_, ?_, ?_⟩
  · rw [List.take_add_one, ha, ← h1]; simp [bxV]
  · rw [take_two (by omega), h2, wcells_app]; rfl
  · intro y hy
    rcases List.mem_append.1 hy with h | h
    · exact keep (h4 y h) (fun e => by have := h5 y h _ e; omega)
    · rw [List.mem_singleton.1 h]
      rw [hm]
      exact keep (own_base own hbb) (fun e => by simp [Value.ownBlock] at e; omega)
  · intro y hy c hc
    rcases List.mem_append.1 hy with h | h
    · exact h5 y h c hc
    · rw [List.mem_singleton.1 h] at hc; simp [Value.ownBlock] at hc; omega
  · rw [List.pairwise_append]
    refine ⟨h6, List.pairwise_singleton _ _, fun y hy z hz c hc e => ?_⟩
    rw [List.mem_singleton.1 hz] at e
    simp [Value.ownBlock] at e
    subst e
    exact hnew Y h4 h1 h2 y hy hc

set_option maxHeartbeats 1000000 in
theorem e_toB (A : Option Addr) (n c : Nat) (X : List Bx) (w : World) (hX : Bxs w w.heap.size A n X) (hn : n ≤ 1048576) (hF : totI X ≤ 1048576) :
    Calls Try.prog 53 #[.slice A n c] w fun e w' => e = .returned (.slice (some ⟨w.heap.size, 0, none⟩) n n) ∧ NestX w.heap.size w' (some ⟨w.heap.size, 0, none⟩) n n X ∧ Below w.heap.size w w' := by
  obtain ⟨i0, hi0, hz0, hz1, hz2⟩ := info_parts' box_info
  have hU := Try.underlying41
  have hl := hide hX.1
  have HX := hide hX
  have HFt := hide hF
  clear hX hF
  have b1 : i0.bytes * n ≤ 281474976710656 := by rw [hz2]; omega
  have b2 : n ≤ maxLen := by unfold maxLen; omega
  go_enter Try.func53, Try.ntmps53
  go_wp2_with (at_make
               refine wpList_make_full _ rfl (.tmp 6) (.tmp 6) _ rfl w.heap.size 55 i0 _ 2 hU hi0 hz0 hz1 .i64 .i64 (n : Int) (n : Int) n rfl rfl rfl rfl b1 b2 (Nat.le_refl _) ?_
               intro w1 own1 gr1
               have hb1 : Below w.heap.size w w1 := (Below.refl _ _).grown gr1 (Nat.le_refl _) (by simp)
               clear gr1)
  go_loopw [4] (fun i wr => ∃ (k : Nat) (Z : List Value), k ≤ n ∧ i = .int .i64 k ∧ Hid (ToAt w wr n k Z X) ∧ Hid (Below w.heap.size w wr)) (fun i _ => n - (intOf i).toNat)
  case atStart => exact ⟨0, _, Nat.zero_le _, rfl, ⟨[], rfl, by simp [wcells], own1, fun y h => by simp at h, fun y h => by simp at h, List.Pairwise.nil⟩, hb1⟩
  case round =>
    obtain ⟨k, Z, hk, rfl, hto, hbr⟩ := hrel
    by_cases hlt : k < n
    · obtain ⟨a, ha⟩ : ∃ a, X[k]? = some a := ⟨X[k]'(by have := hl.out; omega), List.getElem?_eq_getElem _⟩
      obtain ⟨g, off, A', n', c', rfl, hg, hc0, hc1, hn', hm', hf⟩ := (HX.out.below hbr.out).at' ha
      have hsz := hbr.out.size
      have HF := hide (hf.ints.more hsz)
      have hn1 : n' ≤ 1048576 := by
        have h1 := HF.out.1
        have h2 := totI_take ha
        have h3 := totI_le (X := X) (k := k + 1)
        have h4 := HFt.out
        omega
      have Ha := hide ha
      clear hf ha
      go_wp2_with fail
      refine (e_toB1 a.1 A' n' c' a.2 _ HF.out hn1).mono ?_
      rintro e w3 ⟨b, rfl, own3, hb3⟩
      have hbb := (own3.lt b rfl).1
      have hwlt : w.heap.size < wr.heap.size := by
        obtain ⟨Y, _, _, h3, _⟩ := hto.out
        exact (h3.lt w.heap.size rfl).2
      have Hto3 := hide (hto.out.below hb3)
      have Hb3 := hide (hbr.out.trans (hb3.mono hsz))
      have hnew : ∀ Y : List BxV, (∀ y ∈ Y, w3.ownsRow w.heap.size 3 1 y.2.2 y.2.1.length (y.2.1.map (Value.int .i64))) → bxV Y = X.take k → Z.take (k * 2) = wcells Y → ∀ y ∈ Y, y.2.2.ownBlock ≠ some b := by
        intro Y h1 h2 h3 y hy e
        obtain ⟨Y2, g1, g2, _, g4, _, _⟩ := hto.out
        have e2 : wcells Y2 = wcells Y := g2.symm.trans h3
        have hl2 : Y2.length = Y.length := by have := congrArg List.length e2; rw [wcells_len, wcells_len] at this; omega
        obtain ⟨j, hj, ej⟩ := List.mem_iff_getElem.1 hy
        have hy1 : Y[j]? = some y := by rw [List.getElem?_eq_getElem hj, ej]
        have hy2 : Y2[j]? = some (Y2[j]'(by omega)) := List.getElem?_eq_getElem _
        have p1 := (wcells_at hy1).2
        have p2 := (wcells_at hy2).2
        rw [e2] at p2
        rw [p1] at p2
        injection p2 with p2
        have := (g4 _ (List.getElem_mem (by omega : j < Y2.length))).lt b (by rw [← p2]; exact e)
        omega
      have Hst := hide (hto.out.below hb3 |>.step Ha.out hlt (fun _ _ => trivial) own3 (by omega) hsz hnew)
      obtain ⟨z0, z1, hcz0, hcz1, hf0, hf1⟩ : ∃ z0 z1, w3.cell? ⟨w.heap.size, k * 2, none⟩ = some z0 ∧ w3.cell? ⟨w.heap.size, k * 2 + 1, none⟩ = some z1 ∧ w3.frozen? ⟨w.heap.size, k * 2, none⟩ = false ∧ w3.frozen? ⟨w.heap.size, k * 2 + 1, none⟩ = false := by
        obtain ⟨Y, _, _, h3, _⟩ := Hto3.out
        have hz := h3.1
        exact ⟨Z[k * 2]'(by omega), Z[k * 2 + 1]'(by omega), (h3.cellAt (k * 2) (by omega)).trans (List.getElem?_eq_getElem _), (h3.cellAt (k * 2 + 1) (by omega)).trans (List.getElem?_eq_getElem _), h3.frozenAt (k * 2), h3.frozenAt (k * 2 + 1)⟩
      have HB : Hid (Below w.heap.size w ((w3.setCell ⟨w.heap.size, k * 2, none⟩ (.string a.1)).setCell ⟨w.heap.size, k * 2 + 1, none⟩ (.slice (some ⟨b, 0, none⟩) n' n'))) := (Hb3.out.setCell (Nat.le_refl _) _).setCell (Nat.le_refl _) _
      clear hb3 hnew own3
      go_wp2_with fail
      go_roundw
      case rel => exact ⟨k + 1, _, by omega, by go_num, Hst.out, HB.out⟩
      case measure => simp [intOf]; omega
    · obtain ⟨Y, h1, h2, h3, h4, h5, h6⟩ := hto.out
      have hz := h3.1
      rw [List.take_of_length_le (by have := hl.out; omega)] at h1
      rw [List.take_of_length_le (by omega)] at h2
      rw [h2] at h3
      have HN : Hid (NestX w.heap.size wr (some ⟨w.heap.size, 0, none⟩) n n X) := ⟨Y, h1, h3, h4, fun y hy c hc e => by have := h5 y hy c hc; simp [Value.ownBlock] at e; omega, h6⟩
      clear h1 h2 h3 h4 h5 h6 hz
      go_wp2_with fail
      go_ret
      exact ⟨rfl, HN.out, hbr.out⟩

set_option maxHeartbeats 1000000 in
theorem e_eqB1 (a : Bx) (A : Option Addr) (n c : Nat) (B : Option Addr) (m d : Nat) (w : World) (hA : Ints w w.heap.size A n a.2) (hB : Ints w w.heap.size B m a.2) (hn : n ≤ maxLen) (hm : m ≤ maxLen) :
    Calls Try.prog 97 #[.agg #[.string a.1, .slice A n c], .agg #[.string a.1, .slice B m d]] w fun e w' => e = .returned (.bool true) ∧ Below w.heap.size w w' := by
  have Hbel : ∀ T S, Hid (Below w.heap.size w ((w.alloc (.cells #[.string a.1, .slice A n c] T)).alloc (.cells #[.string a.1, .slice B m d] S))) := fun T S => hide (((Below.refl _ _).alloc (Nat.le_refl _) _).alloc (by simp) _)
  have HA := hide hA
  have HB := hide hB
  clear hA hB
  go_enter Try.func97, Try.ntmps97
  go_wp2_with fail
  refine (e_eqI' A n c B m d a.2 _ (HA.out.on (Hbel _ _).out) (HB.out.on (Hbel _ _).out) hn).mono ?_
  rintro e w4 ⟨rfl, q4, rfl⟩
  go_wp2_with fail
  go_ret
  exact ⟨rfl, below_drewN (Hbel _ _).out q4⟩
theorem Later.eqB {B0 : Nat} {W : World} (z : Later B0 W) (a : Bx) (A : Option Addr) (n c : Nat) (B : Option Addr) (m d : Nat) (hA : Ints W B0 A n a.2) (hB : Ints W B0 B m a.2) (h0 : B0 ≤ W.heap.size) (hn : n ≤ maxLen) (hm : m ≤ maxLen) :
    Calls Try.prog 97 #[.agg #[.string a.1, .slice A n c], .agg #[.string a.1, .slice B m d]] z.it fun e w'' => e = .returned (.bool true) ∧ ∃ z' : Later B0 W, w'' = z'.it := by
  have hsz := z.below.size
  exact Later.call ((e_eqB1 a A n c B m d z.it ((hA.below z.below).more (by omega)) ((hB.below z.below).more (by omega)) hn hm).mono fun e w' ⟨h1, h2⟩ => ⟨h1, h2.mono (by omega)⟩)
set_option maxHeartbeats 1000000 in
theorem e_eqB (A : Option Addr) (n c : Nat) (B : Option Addr) (m d : Nat) (X : List Bx) (w : World) (hA : Bxs w w.heap.size A n X) (hB : Bxs w w.heap.size B m X) (hn : n ≤ maxLen) :
    Calls Try.prog 54 #[.slice A n c, .slice B m d] w fun e w' => e = .returned (.bool true) ∧ Below w.heap.size w w' := by
  unfold maxLen at hn
  have hl := hide hA.1
  have hnm : n = m := hA.1.symm.trans hB.1
  subst hnm
  have HA := hide hA
  have HB := hide hB
  clear hA hB
  go_enter Try.func54, Try.ntmps54
  go_wp2_with fail
  go_loopw [5] (fun i wr => ∃ k : Nat, k ≤ n ∧ i = .int .i64 k ∧ Hid (Below w.heap.size w wr)) (fun i _ => n - (intOf i).toNat)
  case atStart => exact ⟨0, Nat.zero_le _, rfl, Below.refl _ _⟩
  case round =>
    obtain ⟨k, hk, rfl, hbr⟩ := hrel
    by_cases hlt : k < n
    · obtain ⟨a, ha⟩ : ∃ a, X[k]? = some a := ⟨X[k]'(by have := hl.out; omega), List.getElem?_eq_getElem _⟩
      obtain ⟨g, off, A4, n4, c4, rfl, hg, hc0, hc1, hn4, hm4, hf⟩ := (HA.out.below hbr.out).at' ha
      obtain ⟨g2, off2, A5, n5, c5, rfl, hg2, hd0, hd1, hn5, hm5, hf2⟩ := (HB.out.below hbr.out).at' ha
      have hz0 : ∀ z : Later w.heap.size wr, z.it.cell? ⟨g, off + k * 2, none⟩ = some (.string a.1) := fun z => (z.cell hg).trans hc0
      have hz1 : ∀ z : Later w.heap.size wr, z.it.cell? ⟨g, off + k * 2 + 1, none⟩ = some (.slice A4 n4 c4) := fun z => (z.cell hg).trans hc1
      have hz2 : ∀ z : Later w.heap.size wr, z.it.cell? ⟨g2, off2 + k * 2, none⟩ = some (.string a.1) := fun z => (z.cell hg2).trans hd0
      have hz3 : ∀ z : Later w.heap.size wr, z.it.cell? ⟨g2, off2 + k * 2 + 1, none⟩ = some (.slice A5 n5 c5) := fun z => (z.cell hg2).trans hd1
      have HF : Hid (Ints wr w.heap.size A4 n4 a.2) := hf.ints
      have HF2 : Hid (Ints wr w.heap.size A5 n5 a.2) := hf2.ints
      have hsz := hbr.out.size
      clear hf hf2 hc0 hc1 hd0 hd1 ha
      go_wp2_with fail
      refine wp_region_later (B := w.heap.size) (by kernel_rfl) (by kernel_rfl) ?_
      repeat (go_big_quiet_step ((go_at_call 97; exact Later.eqB _ a A4 n4 c4 A5 n5 c5 HF.out HF2.out hsz hm4 hm5)))
      refine wpQuiet_nil ?_
      intro _ hw'
      obtain ⟨⟨w5, hb5⟩, hw''⟩ := hw'
      subst hw''
      have Hb5 := hide hb5
      clear hb5
      go_wp2_with fail
      go_roundw
      case rel => exact ⟨k + 1, by omega, by go_num, hbr.out.trans Hb5.out⟩
      case measure => simp [intOf]; omega
    · go_wp2_with fail
      go_ret
      exact ⟨rfl, hbr.out⟩
end Go.Proofs.Ytimpmlmkhjeajaa

/- Words of the exact laws of boxes: marks. -/
set_option linter.unusedVariables false
set_option linter.unusedSimpArgs false
namespace Go.Proofs.Ytimpmlmkhjeajaa
open Go.RowKit

theorem wcells_set0 : ∀ {X : List BxV} {k : Nat} {a : BxV} (s : ByteArray), X[k]? = some a → (wcells X).set (k * 2) (.string s) = wcells (X.set k (s, a.2))
  | [], k, a, v, h => by simp at h
  | b :: X, 0, a, v, h => by simp at h; subst h; rw [wcells_cons, List.set_cons_zero, wcells_cons]; rfl
  | b :: X, k + 1, a, v, h => by
    have h' : X[k]? = some a := by simpa using h
    rw [wcells_cons, List.set_cons_succ, wcells_cons, ← wcells_set0 v h', show (k + 1) * 2 = k * 2 + 1 + 1 by omega]
    rfl
structure Mid (base top : Nat) (w w' : World) : Prop where
  os : w'.os = w.os
  tape : w'.tape = w.tape
  output : w'.output = w.output
  size : w.heap.size ≤ w'.heap.size
  block : ∀ k, k < w.heap.size → (k < base ∨ top ≤ k) → w'.heap[k]? = w.heap[k]?
theorem Mid.refl (base top : Nat) (w : World) : Mid base top w w := ⟨rfl, rfl, rfl, Nat.le_refl _, fun _ _ _ => rfl⟩
theorem Mid.trans {base top : Nat} {a b c : World} (h : Mid base top a b) (k : Mid base top b c) : Mid base top a c :=
  ⟨k.os.trans h.os, k.tape.trans h.tape, k.output.trans h.output, Nat.le_trans h.size k.size, fun i hi hn => (k.block i (Nat.lt_of_lt_of_le hi h.size) hn).trans (h.block i hi hn)⟩
theorem Mid.of_below {base top : Nat} {a b : World} (h : Below a.heap.size a b) : Mid base top a b := ⟨h.os, h.tape, h.output, h.size, fun i hi _ => h.block i hi⟩
theorem Mid.of_grown {base top : Nat} {a b : World} {row : Option Nat} (h : a.grownBy b row) (hr : ∀ g, row = some g → base ≤ g ∧ g < top) : Mid base top a b :=
  ⟨h.os, h.tape, h.output, h.size, fun i hi hn => h.block i hi (fun e => by have := hr i e.symm; omega)⟩
theorem Mid.below {base top B : Nat} {w a b : World} (h : Mid base top a b) (hw : Below B w a) (hB : B ≤ base) (hs : B ≤ a.heap.size) : Below B w b :=
  hw.trans ⟨h.os, h.tape, h.output, h.size, fun k hk => h.block k (by omega) (.inl (by omega))⟩
theorem Mid.nest {base top base' : Nat} {a b : World} {A : Option Addr} {n c : Nat} {Y : List BxV} (h : Mid base top a b) (hY : NestB base' a A n c Y) (ht : top ≤ base') : NestB base' b A n c Y :=
  hY.kept h.os h.tape h.output h.size fun k hk => h.block k (hY.lt hk).2 (.inr (by have := (hY.lt hk).1; omega))
theorem Mid.row {base top base' : Nat} {a b : World} {e : TypeId} {size m : Nat} {v : Value} {xs : List Value} (h : Mid base top a b) (ho : a.ownsRow base' e size v m xs) (ht : top ≤ base') : b.ownsRow base' e size v m xs := by
  refine ⟨ho.1, ?_⟩
  rcases ho.2 with h1 | ⟨g, cap, cur, e1, e2, e3, e4⟩
  · exact .inl h1
  · exact .inr ⟨g, cap, cur, e1, e2, by rw [h.block g ((ho.lt g (by rw [e1]; rfl)).2) (.inr (by omega))]; exact e3, e4⟩


def markB : Nat → List Nat → List Bx
  | _, [] => []
  | k, m :: ns => (mkT k, marksI (k + 1) m) :: markB (k + 1 + m) ns
def cnt (ns : List Nat) : Nat := ns.length + ns.sum
theorem cnt_nil : cnt [] = 0 := rfl
theorem cnt_cons (m : Nat) (ns : List Nat) : cnt (m :: ns) = 1 + m + cnt ns := by unfold cnt; simp; omega
theorem cnt_take : ∀ {ns : List Nat} {j m : Nat}, ns[j]? = some m → cnt (ns.take (j + 1)) = cnt (ns.take j) + 1 + m
  | [], j, m, h => by simp at h
  | q :: ns, 0, m, h => by simp at h; subst h; simp [cnt]
  | q :: ns, j + 1, m, h => by
    have h' : ns[j]? = some m := by simpa using h
    rw [List.take_succ_cons, List.take_succ_cons, cnt_cons, cnt_cons, cnt_take h']; omega
theorem cnt_le {ns : List Nat} {j m : Nat} (h : ns[j]? = some m) : cnt (ns.take j) + 1 + m ≤ cnt ns := by
  rw [← cnt_take h]
  have e : cnt ns = cnt (ns.take (j + 1)) + cnt (ns.drop (j + 1)) := by
    conv => lhs; rw [← List.take_append_drop (j + 1) ns]
    unfold cnt; rw [List.length_append, List.sum_append]; omega
  omega
theorem markB_len : ∀ (k : Nat) (ns : List Nat), (markB k ns).length = ns.length
  | _, [] => rfl
  | k, m :: ns => by simp [markB, markB_len]
theorem markB_at : ∀ {k j m : Nat} {ns : List Nat}, ns[j]? = some m → (markB k ns)[j]? = some (mkT (k + cnt (ns.take j)), marksI (k + cnt (ns.take j) + 1) m)
  | k, j, m, [], h => by simp at h
  | k, 0, m, q :: ns, h => by simp at h; subst h; simp [markB, cnt]
  | k, j + 1, m, q :: ns, h => by
    have h' : ns[j]? = some m := by simpa using h
    have e : k + 1 + q + cnt (ns.take j) = k + cnt ((q :: ns).take (j + 1)) := by rw [List.take_succ_cons, cnt_cons]; omega
    have := markB_at (k := k + 1 + q) h'
    rw [e] at this
    simpa [markB] using this
theorem own_slice' {w : World} {base : Nat} {e : TypeId} {size m : Nat} {v : Value} {xs : List Value} (h : w.ownsRow base e size v m xs) : ∃ A c, v = .slice A m c := by
  rcases h.2 with ⟨rfl, rfl⟩ | ⟨g, cap, cur, rfl, _⟩
  · exact ⟨_, _, rfl⟩
  · exact ⟨_, _, rfl⟩
/-- How many followers each has. -/
def lens (Y : List BxV) : List Nat := Y.map fun y => y.2.1.length
def vals (Y : List BxV) : List Value := Y.map fun y => y.2.2
theorem set_same' {α : Type} {L : List α} {j : Nat} {x : α} (h : L[j]? = some x) : L.set j x = L := by
  obtain ⟨hj, e⟩ := List.getElem?_eq_some_iff.1 h
  subst e
  exact List.set_getElem_self hj
theorem lens_set {Y : List BxV} {j : Nat} {y z : BxV} (h : Y[j]? = some y) (e : z.2.1.length = y.2.1.length) : lens (Y.set j z) = lens Y := by
  unfold lens
  rw [List.map_set]
  have h1 : (Y.map fun y => y.2.1.length)[j]? = some z.2.1.length := by rw [List.getElem?_map, h, e]; rfl
  exact set_same' h1
theorem vals_set {Y : List BxV} {j : Nat} {y z : BxV} (h : Y[j]? = some y) (e : z.2.2 = y.2.2) : vals (Y.set j z) = vals Y := by
  unfold vals
  rw [List.map_set]
  have h1 : (Y.map fun y => y.2.2)[j]? = some z.2.2 := by rw [List.getElem?_map, h, e]; rfl
  exact set_same' h1
theorem wblk_vals {v : Value} {Y Z : List BxV} (h : vals Y = vals Z) {b : Nat} (hb : WBlk v Y b) : WBlk v Z b := by
  rcases hb with hb | ⟨y, hy, hb⟩
  · exact .inl hb
  · have h1 : y.2.2 ∈ vals Z := by rw [← h]; exact List.mem_map_of_mem hy
    obtain ⟨z, hz, e⟩ := List.mem_map.1 h1
    exact .inr ⟨z, hz, by rw [e]; exact hb⟩
theorem two_vals {Y Z : List BxV} (h : vals Y = vals Z) (ht : Y.Pairwise fun y z => ∀ b, y.2.2.ownBlock = some b → z.2.2.ownBlock ≠ some b) : Z.Pairwise fun y z => ∀ b, y.2.2.ownBlock = some b → z.2.2.ownBlock ≠ some b := by
  have h1 : (vals Y).Pairwise fun u v => ∀ b, u.ownBlock = some b → v.ownBlock ≠ some b := by unfold vals; rw [List.pairwise_map]; exact ht
  rw [h] at h1
  unfold vals at h1
  rwa [List.pairwise_map] at h1
section
variable {base : Nat} {w w' : World} {n c b : Nat} {Y : List BxV}
theorem NestB.name {j : Nat} {y : BxV} (h : NestB base w (some ⟨b, 0, none⟩) n c Y) (hy : Y[j]? = some y) (t : ByteArray) : NestB base (w.setCell ⟨b, j * 2, none⟩ (.string t)) (some ⟨b, 0, none⟩) n c (Y.set j (t, y.2)) := by
  have s1 := h.row.stored (j * 2) (.string t)
  rw [wcells_set0 t hy] at s1
  have hv := vals_set (z := (t, y.2)) hy rfl
  refine ⟨s1.1, fun z hz => ?_, fun z hz d hd => ?_, two_vals hv.symm h.two⟩
  · rcases List.mem_or_eq_of_mem_set hz with h1 | rfl
    · exact (h.ids z h1).kept (grown_set _ _ _) (.inr (fun e => h.far z h1 _ e rfl))
    · exact (h.ids y (List.mem_of_getElem? hy)).kept (grown_set _ _ _) (.inr (fun e => h.far y (List.mem_of_getElem? hy) _ e rfl))
  · rcases List.mem_or_eq_of_mem_set hz with h1 | rfl
    · exact h.far z h1 d hd
    · exact h.far y (List.mem_of_getElem? hy) d hd
theorem wcells_setL : ∀ {X : List BxV} {k : Nat} {a : BxV} (G : List Int), X[k]? = some a → wcells X = wcells (X.set k (a.1, G, a.2.2))
  | [], k, a, v, h => by simp at h
  | b :: X, 0, a, v, h => by simp at h; subst h; rw [wcells_cons, List.set_cons_zero, wcells_cons]
  | b :: X, k + 1, a, v, h => by
    have h' : X[k]? = some a := by simpa using h
    rw [wcells_cons, List.set_cons_succ, wcells_cons, ← wcells_setL v h']
theorem NestB.nums {A : Option Addr} {j : Nat} {y : BxV} {G : List Int} (h : NestB base w A n c Y) (hy : Y[j]? = some y) (hG : w'.ownsRow base 3 1 y.2.2 G.length (G.map (Value.int .i64))) (hg : w.grownBy w' y.2.2.ownBlock) : NestB base w' A n c (Y.set j (y.1, G, y.2.2)) := by
  have hm := List.mem_of_getElem? hy
  obtain ⟨hj, ej⟩ := List.getElem?_eq_some_iff.1 hy
  have hv := vals_set (z := (y.1, G, y.2.2)) hy rfl
  refine ⟨?_, fun z hz => ?_, fun z hz d hd => ?_, two_vals hv.symm h.two⟩
  · rw [← wcells_setL G hy]
    refine h.row.kept hg ?_
    cases ho : (Value.slice A n c).ownBlock with
    | none => exact .inl rfl
    | some q => exact .inr (fun e => h.far y hm q e.symm ho)
  · obtain ⟨i, hi, ei⟩ := List.mem_iff_getElem.1 hz
    rw [List.length_set] at hi
    by_cases e : i = j
    · subst e
      rw [List.getElem_set_self] at ei
      rw [← ei]; exact hG
    · rw [List.getElem_set_ne (by omega)] at ei
      subst ei
      refine (h.ids _ (List.getElem_mem hi)).kept hg ?_
      cases ho : (Y[i]).2.2.ownBlock with
      | none => exact .inl rfl
      | some q =>
        refine .inr (fun e2 => ?_)
        have tw := List.pairwise_iff_getElem.1 h.two
        rcases Nat.lt_or_gt_of_ne e with hl | hl
        · exact tw i j hi hj hl q ho (by rw [ej]; exact e2.symm)
        · exact tw j i hj hi hl q (by rw [ej]; exact e2.symm) ho
  · rcases List.mem_or_eq_of_mem_set hz with h1 | rfl
    · exact h.far z h1 d hd
    · exact h.far y hm d hd
theorem bxV_set {Y : List BxV} {j : Nat} {z : BxV} (i : Nat) : (bxV (Y.set j z))[i]? = if i = j ∧ j < Y.length then some (z.1, z.2.1) else (bxV Y)[i]? := by
  unfold bxV
  rw [List.map_set, List.getElem?_set]
  by_cases e : j = i
  · subst e
    rw [if_pos rfl]
    by_cases hl : j < Y.length
    · rw [if_pos (by simpa using hl), if_pos ⟨rfl, hl⟩]
    · rw [if_neg (by simpa using hl), if_neg (by omega), List.getElem?_eq_none (by simp; omega)]
  · rw [if_neg e, if_neg (fun h => e h.1.symm)]
end

set_option maxHeartbeats 1000000 in
theorem e_marksB (base top : Nat) (A : Option Addr) (n c k : Nat) (Y : List BxV) (w : World) (own : NestB base w A n c Y) (hT : ∀ b, WBlk (.slice A n c) Y b → b < top) (hk : 1 ≤ k) (hk2 : k + cnt (lens Y) ≤ 1500000) :
    Calls Try.prog 55 #[.slice A n c, .int .i64 k] w fun e w' => e = .returned (.int .i64 ((k + cnt (lens Y) : Nat) : Int)) ∧ (∃ Z, NestB base w' A n c Z ∧ bxV Z = markB k (lens Y) ∧ vals Z = vals Y) ∧ Mid base top w w' := by
  have hln : Hid (Y.length = n) := own.len
  have hlen2 : Hid ((lens Y).length = n) := by show _ = _; unfold lens; rw [List.length_map]; exact own.len
  have hnb : n ≤ 1500000 := by have h1 := hlen2.out; have h2 := hk2; unfold cnt at h2; omega
  rcases own_form own.row with ⟨rfl, rfl⟩ | ⟨b, rfl⟩
  · have hY : Y = [] := List.eq_nil_of_length_eq_zero hln.out
    subst hY
    go_enter Try.func55, Try.ntmps55
    go_wp2_with fail
    go_loopw [1, 5] (fun r i wr => r = .int .i64 k ∧ i = .int .i64 0 ∧ wr = w) (fun _ _ _ => 0)
    case atStart => exact ⟨rfl, rfl, rfl⟩
    case round =>
      obtain ⟨rfl, rfl, rfl⟩ := hrel
      go_wp2_with fail
      go_ret
      exact ⟨rfl, ⟨[], own, rfl, rfl⟩, Mid.refl _ _ _⟩
  · have Own := hide own
    have HT := hide hT
    have HK := hide hk2
    clear own hT hk2
    go_enter Try.func55, Try.ntmps55
    go_wp2_with fail
    go_loopw [1, 5] (fun r i wr => ∃ (j q : Nat) (Z : List BxV), j ≤ n ∧ r = .int .i64 (q : Int) ∧ i = .int .i64 j ∧ Hid (q = k + cnt ((lens Y).take j)) ∧ Hid (NestB base wr (some ⟨b, 0, none⟩) n c Z) ∧ Hid (lens Z = lens Y ∧ vals Z = vals Y) ∧ Hid (∀ i, i < j → (bxV Z)[i]? = (markB k (lens Y))[i]?) ∧ Hid (Mid base top w wr)) (fun _ i _ => n - (intOf i).toNat)
    case atStart => exact ⟨0, k, Y, Nat.zero_le _, rfl, rfl, by simp [Hid, cnt], Own.out, ⟨rfl, rfl⟩, fun i h => absurd h (by omega), Mid.refl _ _ _⟩
    case round =>
      obtain ⟨j, q, Z, hj, rfl, rfl, hq, hN, hLV, hu, hMid⟩ := hrel
      by_cases hlt : j < n
      · have hzl : Hid (Z.length = n) := hN.out.len
        obtain ⟨y, hy⟩ : ∃ y, Z[j]? = some y := ⟨Z[j]'(by have := hzl.out; omega), List.getElem?_eq_getElem _⟩
        have hm : (lens Y)[j]? = some y.2.1.length := by rw [← hLV.out.1]; unfold lens; rw [List.getElem?_map, hy]; rfl
        have hcl := cnt_le hm
        have hct := cnt_take hm
        have hma := markB_at (k := k) hm
        have hq1 : q + 1 + y.2.1.length ≤ 1500000 := by have h1 := hq.out; have h2 := HK.out; omega
        obtain ⟨A4, c4, e4⟩ := own_slice' (hN.out.ids y (List.mem_of_getElem? hy))
        have Hy := hide hy
        have Hm := hide hm
        have Hct := hide hct
        have Hma := hide hma
        clear hm hy hcl hct hma
        go_wp2_with fail
        refine (e_mark q _ (by have := hq.out; omega) (by omega)).mono ?_
        rintro e w3 ⟨rfl, hb3⟩
        have N3 := hide (hN.out.below hb3)
        have M3 := hide (hMid.out.trans (Mid.of_below hb3))
        have hzz : (wcells Z).length = n * 2 := by rw [wcells_len]; have := hzl.out; omega
        have hcz : w3.cell? ⟨b, j * 2, none⟩ = some (.string y.1) := (N3.out.row.cellAt (j * 2) (by omega)).trans (wcells_at Hy.out).1
        have hcu : w3.cell? ⟨b, j * 2 + 1, none⟩ = some (.slice A4 y.2.1.length c4) := (N3.out.row.cellAt (j * 2 + 1) (by omega)).trans ((wcells_at Hy.out).2.trans (by rw [e4]))
        have hfz : w3.frozen? ⟨b, j * 2, none⟩ = false := N3.out.row.frozenAt (j * 2)
        have N4 := hide (N3.out.name Hy.out (mkT q))
        have hb : base ≤ b ∧ b < top := ⟨(hN.out.row.lt b rfl).1, HT.out b (.inl rfl)⟩
        have M4 := hide (M3.out.trans (Mid.of_grown (grown_set w3 ⟨b, j * 2, none⟩ (.string (mkT q))) (fun g e => by injection e with e; subst e; exact hb)))
        have Hy4 : Hid ((Z.set j (mkT q, y.2))[j]? = some (mkT q, y.2)) := List.getElem?_set_self (by have := hzl.out; omega)
        have Ht := hide (show mkT q = mkT q from rfl)
        clear hb3 hzz
        generalize htt : mkT q = t at *
        have Htt := hide htt
        clear htt
        go_wp2_with fail
        have f4 := N4.out.ids _ (List.mem_of_getElem? Hy4.out)
        have F4 := hide (show World.ownsRow _ base 3 1 (.slice A4 y.2.1.length c4) y.2.1.length (y.2.1.map (Value.int .i64)) from e4 ▸ f4)
        clear f4
        refine (e_marksI base A4 y.2.1.length c4 (q + 1) y.2.1 _ F4.out (by omega) (by omega) (by omega)).mono ?_
        rintro e w5 ⟨rfl, own5, gr5⟩
        have hG : w5.ownsRow base 3 1 y.2.2 (marksI (q + 1) y.2.1.length).length ((marksI (q + 1) y.2.1.length).map (Value.int .i64)) := by rw [marksI_len, e4]; exact own5
        have N5 := hide (N4.out.nums Hy4.out hG (show World.grownBy _ w5 y.2.2.ownBlock from e4.symm ▸ gr5))
        have M5 := hide (M4.out.trans (Mid.of_grown gr5 (fun g e => ⟨(F4.out.lt g e).1, HT.out g (wblk_vals hLV.out.2 (.inr ⟨y, List.mem_of_getElem? Hy.out, by rw [e4]; exact e⟩))⟩)))
        have HLV5 : Hid (lens ((Z.set j (t, y.2)).set j (t, marksI (q + 1) y.2.1.length, y.2.2)) = lens Y ∧ vals ((Z.set j (t, y.2)).set j (t, marksI (q + 1) y.2.1.length, y.2.2)) = vals Y) := by
          refine ⟨?_, ?_⟩
          · rw [lens_set (z := (t, marksI (q + 1) y.2.1.length, y.2.2)) Hy4.out (by exact marksI_len _ _), lens_set (z := (t, y.2)) Hy.out rfl]; exact hLV.out.1
          · rw [vals_set (z := (t, marksI (q + 1) y.2.1.length, y.2.2)) Hy4.out rfl, vals_set (z := (t, y.2)) Hy.out rfl]; exact hLV.out.2
        have H5 : Hid (∀ i, i < j + 1 → (bxV ((Z.set j (t, y.2)).set j (t, marksI (q + 1) y.2.1.length, y.2.2)))[i]? = (markB k (lens Y))[i]?) := fun i hi => by
          rw [bxV_set, bxV_set]
          by_cases e : i = j
          · subst e
            rw [if_pos ⟨rfl, by rw [List.length_set]; have := hzl.out; omega⟩, Hma.out, ← hq.out, Htt.out]
          · rw [if_neg (fun h => e h.1), if_neg (fun h => e h.1)]
            exact hu.out i (by omega)
        clear own5 gr5 hG
        go_wp2_with fail
        go_roundw
        case rel => exact ⟨j + 1, q + 1 + y.2.1.length, _, by omega, by go_num, by go_num, by show _ = _; have h1 := hq.out; have h2 := Hct.out; omega, N5.out, HLV5.out, H5, M5.out⟩
        case measure => simp [intOf]; omega
      · obtain rfl : j = n := by omega
        have hQ : Hid (q = k + cnt (lens Y)) := by
          have h := hq.out
          rw [List.take_of_length_le (by have := hlen2.out; omega)] at h
          exact h
        have HZ : Hid (bxV Z = markB k (lens Y)) := by
          apply List.ext_getElem?; intro i
          rcases Nat.lt_or_ge i j with hi | hi
          · exact hu.out i hi
          · rw [List.getElem?_eq_none (by rw [bxV_len]; have := hN.out.len; omega), List.getElem?_eq_none (by rw [markB_len]; have := hlen2.out; omega)]
        go_wp2_with fail
        go_ret
        exact ⟨by rw [hQ.out]; rfl, ⟨Z, hN.out, HZ.out, hLV.out.2⟩, hMid.out⟩

set_option maxHeartbeats 1000000 in
theorem e_heldB (A : Option Addr) (n c k : Nat) (ns : List Nat) (w : World) (hL : Bxs w w.heap.size A n (markB k ns)) (hk : 1 ≤ k) (hk2 : k + cnt ns ≤ 1500000) :
    Calls Try.prog 56 #[.slice A n c, .int .i64 k] w fun e w' => e = .returned (.int .i64 ((k + cnt ns : Nat) : Int)) ∧ Below w.heap.size w w' := by
  have hln : Hid (ns.length = n) := by have := hL.1; rw [markB_len] at this; exact this
  have hnb : n ≤ 1500000 := by have h1 := hln.out; have h2 := hk2; unfold cnt at h2; omega
  have HL := hide hL
  have HK := hide hk2
  clear hL hk2
  go_enter Try.func56, Try.ntmps56
  go_wp2_with fail
  go_loopw [1, 5] (fun r i wr => ∃ (j q : Nat), j ≤ n ∧ r = .int .i64 (q : Int) ∧ i = .int .i64 j ∧ Hid (q = k + cnt (ns.take j)) ∧ Hid (Below w.heap.size w wr)) (fun _ i _ => n - (intOf i).toNat)
  case atStart => exact ⟨0, k, Nat.zero_le _, rfl, rfl, by simp [Hid, cnt], Below.refl _ _⟩
  case round =>
    obtain ⟨j, q, hj, rfl, rfl, hq, hbr⟩ := hrel
    by_cases hlt : j < n
    · obtain ⟨m, hm⟩ : ∃ m, ns[j]? = some m := ⟨ns[j]'(by have := hln.out; omega), List.getElem?_eq_getElem _⟩
      have hma := markB_at (k := k) hm
      rw [← hq.out] at hma
      obtain ⟨g, off, A4, n4, c4, rfl, hg, hc0, hc1, hn4, hm4, hf⟩ := (HL.out.below hbr.out).at' hma
      have hcl := cnt_le hm
      have Hct := hide (cnt_take hm)
      have hq1 : q + 1 + m ≤ 1500000 := by have h1 := hq.out; have h2 := HK.out; omega
      have hsz := hbr.out.size
      have hgt : g < wr.heap.size := by omega
      have HF := hide hf.ints
      have hn4m : n4 = m := by have h1 := HF.out.1; rw [marksI_len] at h1; omega
      subst hn4m
      have hmk := fun W => e_mark q W (by have := hq.out; omega) (by omega)
      have HM := hide hmk
      clear hma hf hcl hm hmk
      generalize mkT q = t at *
      go_wp2_with fail
      go_region_with (go_at_call 94; refine (HM.out _).mono ?_; rintro e w3 ⟨rfl, hb3⟩; have hc3 : w3.cell? ⟨g, off + j * 2, none⟩ = some (.string t) := (hb3.cell (p := ⟨g, off + j * 2, none⟩) hgt).trans hc0)
      all_goals
        have hb3' : Below wr.heap.size wr w3 := (below_drewN' wr.heap.size wr 1).trans hb3
        have Hb13 : Hid (Below w.heap.size w w3) := hbr.out.trans (hb3'.mono hsz)
        have hc4 : w3.cell? ⟨g, off + j * 2 + 1, none⟩ = some (.slice A4 n4 c4) := (hb3'.cell (p := ⟨g, off + j * 2 + 1, none⟩) hgt).trans hc1
        have HF3 := hide ((HF.out.below (hb3'.mono hsz)).more (show w.heap.size ≤ w3.heap.size by have := hb3'.size; omega))
        clear hb3 hb3'
        go_wp2_with fail
        refine (e_heldI A4 n4 c4 (q + 1) _ HF3.out (by omega) (by omega) (by omega)).mono ?_
        rintro e w5 ⟨rfl, hb5⟩
        have Hb5 := hide (Hb13.out.trans (hb5.mono Hb13.out.size))
        have hneg : ¬ (((q + 1 + n4 : Nat) : Int) < 0) := by omega
        obtain ⟨q2, hq2⟩ : ∃ q2, q2 = q + 1 + n4 := ⟨_, rfl⟩
        have Hq2 := hide hq2
        rw [← hq2] at hneg ⊢
        clear hb5 hq2
        go_wp2_with fail
        go_roundw
        case rel => exact ⟨j + 1, q2, by omega, by go_num, by go_num, by show _ = _; have h1 := hq.out; have h2 := Hct.out; have h3 := Hq2.out; omega, Hb5.out⟩
        case measure => simp [intOf]; omega
    · have hQ : Hid (q = k + cnt ns) := by
        have h := hq.out
        rw [List.take_of_length_le (by have := hln.out; omega)] at h
        exact h
      go_wp2_with fail
      go_ret
      exact ⟨by rw [hQ.out]; rfl, hbr.out⟩

theorem cnt_lens (Y : List BxV) : cnt (lens Y) = Y.length + totI (bxV Y) := by
  unfold cnt lens totI bxV
  rw [List.length_map, List.map_map]
  rfl
end Go.Proofs.Ytimpmlmkhjeajaa
