/- Words of the exact laws of boxes: sizes, copies. -/
import Derived.Test.YtfncmkmhdddmiaaBxr
import Derived.Test.YtfncmkmhdddmiaaBv
import Derived.Test.YtfncmkmhdddmiaaMk
set_option linter.unusedVariables false
set_option linter.unusedSimpArgs false
namespace Go.Proofs.Ytfncmkmhdddmiaa
open Go.RowKit Go.BigFrame

/-- A size is returned: below 0, or all is small; m things of it are used up. -/
def SzR (m : Nat) (left : Nat) (e : Ending) : Prop := (e = .returned (.int .i64 (-1))) ∨ ∃ r : Nat, e = .returned (.int .i64 r) ∧ r + m ≤ left
theorem e_szI (A : Option Addr) (n c : Nat) (left : Nat) (w : World) (hn : n ≤ maxLen) (hl2 : left ≤ 1048576) :
    Calls Try.prog 80 #[.slice A n c, .int .i64 left] w fun e w' => SzR n left e ∧ w = w' := by
  unfold maxLen at hn
  by_cases h0 : left < n
  · have hneg : (left : Int) - (n : Int) < 0 := by omega
    go_enter Try.func80, Try.ntmps80
    go_wp2_with fail
    go_ret
    exact ⟨.inl rfl, rfl⟩
  · obtain ⟨d, hd⟩ : ∃ d, left = d + n := ⟨left - n, by omega⟩
    have hneg : ¬ ((left : Int) - (n : Int) < 0) := by omega
    have hd2 : (left : Int) - (n : Int) = (d : Int) := by omega
    have Hd := hide hd
    clear hd h0
    go_enter Try.func80, Try.ntmps80
    go_wp2_with fail
    go_ret
    exact ⟨.inr ⟨d, rfl, by have := Hd.out; omega⟩, rfl⟩

set_option maxHeartbeats 1000000 in
theorem e_szB1 (nm : ByteArray) (A : Option Addr) (n c : Nat) (F : List Int) (x : Nat) (w : World) (hF : Ints w w.heap.size A n F) (hn : n ≤ maxLen) (hs : nm.size ≤ maxLen) (hx : x ≤ 1048576) :
    Calls Try.prog 65 #[.agg #[.string nm, .slice A n c], .int .i64 x] w fun e w' => SzR n x e ∧ Below w.heap.size w w' := by
  unfold maxLen at hs
  have HF : ∀ T, Hid (Ints (w.alloc (.cells #[.string nm, .slice A n c] T)) (w.alloc (.cells #[.string nm, .slice A n c] T)).heap.size A n F) := fun T => hide (hF.on ((Below.refl _ _).alloc (Nat.le_refl _) _))
  have HN := hide hn
  clear hF hn
  by_cases h : x < nm.size
  · have h2 : (x : Int) - (nm.size : Int) < 0 := by omega
    go_enter Try.func65, Try.ntmps65
    go_wp2_with fail
    go_ret
    exact ⟨.inl rfl, (Below.refl _ _).alloc (Nat.le_refl _) _⟩
  · have h2 : ¬ ((x : Int) - (nm.size : Int) < 0) := by omega
    obtain ⟨y, hy⟩ : ∃ y : Nat, y = x - nm.size := ⟨_, rfl⟩
    have hy2 : (x : Int) - (nm.size : Int) = (y : Int) := by omega
    have hy3 : y ≤ x := by omega
    clear hy h
    go_enter Try.func65, Try.ntmps65
    go_wp2_with fail
    refine (e_szI A n c y _ HN.out (by omega)).mono ?_
    rintro e w' ⟨h, rfl⟩
    rcases h with rfl | ⟨r, rfl, hr⟩
    · go_wp2_with fail
      go_ret
      exact ⟨.inl rfl, (Below.refl _ _).alloc (Nat.le_refl _) _⟩
    · have hr0 : ¬ ((r : Int) < 0) := by omega
      go_wp2_with fail
      go_ret
      exact ⟨.inr ⟨r, rfl, by omega⟩, (Below.refl _ _).alloc (Nat.le_refl _) _⟩

/-- How many followers there are. -/
def totI (X : List Bx) : Nat := (X.map fun a => a.2.length).sum
theorem totI_take {X : List Bx} {k : Nat} {a : Bx} (h : X[k]? = some a) : totI (X.take (k + 1)) = totI (X.take k) + a.2.length := by
  unfold totI; rw [List.take_add_one, h]; simp
theorem totI_le {X : List Bx} {k : Nat} : totI (X.take k) ≤ totI X := by
  have e : totI X = totI (X.take k) + totI (X.drop k) := by
    unfold totI
    conv => lhs; rw [← List.take_append_drop k X]
    rw [List.map_append, List.sum_append]
  omega
set_option maxHeartbeats 1000000 in
theorem e_szB (A : Option Addr) (n c : Nat) (X : List Bx) (left : Nat) (w : World) (hX : Bxs w w.heap.size A n X) (hS : BSmall X) (hn : n ≤ maxLen) (hl2 : left ≤ 1048576) :
    Calls Try.prog 34 #[.slice A n c, .int .i64 left] w fun e w' => SzR (n + totI X) left e ∧ Below w.heap.size w w' := by
  unfold maxLen at hn
  have hl := hide hX.1
  have HX := hide hX
  have HS := hide hS
  clear hX hS
  by_cases h0 : left < n
  · have hlt : (left : Int) < (n : Int) := by omega
    go_enter Try.func34, Try.ntmps34
    go_wp2_with fail
    go_ret
    exact ⟨.inl rfl, Below.refl _ _⟩
  obtain ⟨d, hd⟩ : ∃ d, left = d + n := ⟨left - n, by omega⟩
  have hneg : ¬ ((left : Int) - (n : Int) < 0) := by omega
  have Hd := hide hd
  clear hd h0
  go_enter Try.func34, Try.ntmps34
  go_wp2_with fail
  go_loopw [1, 5] (fun r i wr => ∃ k x : Nat, k ≤ n ∧ i = .int .i64 k ∧ r = .int .i64 x ∧ Hid (x + totI (X.take k) ≤ d) ∧ Hid (Below w.heap.size w wr)) (fun _ i _ => n - (intOf i).toNat)
  case atStart => exact ⟨0, d, Nat.zero_le _, rfl, by have := Hd.out; go_num, by simp [Hid, totI], Below.refl _ _⟩
  case round =>
    obtain ⟨k, x, hk, rfl, rfl, hx, hbr⟩ := hrel
    by_cases hlt : k < n
    · obtain ⟨a, ha⟩ : ∃ a, X[k]? = some a := ⟨X[k]'(by have := hl.out; omega), List.getElem?_eq_getElem _⟩
      obtain ⟨g, off, A', n', c', rfl, hg, hc0, hc1, hn', hm', hf⟩ := (HX.out.below hbr.out).at' ha
      have hsm := HS.out a (List.mem_of_getElem? ha)
      have Hsm := hide hsm
      have hsz := hbr.out.size
      have HF := hide (hf.ints.more hsz)
      have hE := hide (totI_take ha)
      have hlen := hide (HF.out.1)
      clear ha hf hsm
      go_wp2_with fail
      refine (e_szB1 a.1 A' n' c' a.2 x _ HF.out hm' Hsm.out (by have := Hd.out; have := hx.out; omega)).mono ?_
      rintro e w2 ⟨h, hb2⟩
      have Hb2 := hide (hbr.out.trans (hb2.mono hsz))
      clear hb2
      rcases h with rfl | ⟨r, rfl, hr⟩
      · go_wp2_with fail
        go_ret
        exact ⟨.inl rfl, Hb2.out⟩
      · have hr0 : ¬ ((r : Int) < 0) := by omega
        have Hr := hide hr
        clear hr
        go_wp2_with fail
        go_roundw
        case rel => exact ⟨k + 1, r, by omega, by go_num, by go_num, by show _ ≤ _; have h1 := hE.out; have h2 := hx.out; have h3 := Hr.out; have h4 := hlen.out; omega, Hb2.out⟩
        case measure => simp [intOf]; omega
    · have hR : X.take k = X := List.take_of_length_le (by have := hl.out; omega)
      have h2 := hx.out
      rw [hR] at h2
      have H2 := hide h2
      clear hR h2
      go_wp2_with fail
      go_ret
      exact ⟨.inr ⟨x, rfl, by have := Hd.out; have := H2.out; omega⟩, hbr.out⟩

set_option maxHeartbeats 1000000 in
theorem e_toI (A : Option Addr) (n c : Nat) (L : List Int) (w : World) (hL : Ints w w.heap.size A n L) (hn : n ≤ 1048576) :
    Calls Try.prog 37 #[.slice A n c] w fun e w' => e = .returned (.slice (some ⟨w.heap.size, 0, none⟩) n n) ∧ w'.ownsRow w.heap.size 3 1 (.slice (some ⟨w.heap.size, 0, none⟩) n n) n (L.map (Value.int .i64)) ∧ Below w.heap.size w w' := by
  obtain ⟨i0, hi0, hz0, hz1, hz2⟩ := info_parts' int_info
  have hU := Try.underlying23
  have hl := hide hL.1
  have HL := hide hL.2
  clear hL
  have b1 : i0.bytes * n ≤ 281474976710656 := by rw [hz2]; omega
  have b2 : n ≤ maxLen := by unfold maxLen; omega
  go_enter Try.func37, Try.ntmps37
  go_wp2_with (at_make
               refine wpList_make_full _ rfl (.tmp 6) (.tmp 6) _ rfl w.heap.size 3 i0 _ 1 hU hi0 hz0 hz1 .i64 .i64 (n : Int) (n : Int) n rfl rfl rfl rfl b1 b2 (Nat.le_refl _) ?_
               intro w1 own1 gr1
               have hb1 : Below w.heap.size w w1 := (Below.refl _ _).grown gr1 (Nat.le_refl _) (by simp)
               clear gr1)
  go_loopw [4] (fun i wr => ∃ (k : Nat) (Z : List Value), k ≤ n ∧ i = .int .i64 k ∧ wr.ownsRow w.heap.size 3 1 (.slice (some ⟨w.heap.size, 0, none⟩) n n) n Z ∧ Hid (∀ j s, j < k → L[j]? = some s → Z[j]? = some (.int .i64 s)) ∧ Below w.heap.size w wr) (fun i _ => n - (intOf i).toNat)
  case atStart => exact ⟨0, _, Nat.zero_le _, rfl, own1, fun j s h => absurd h (by omega), hb1⟩
  case round =>
    obtain ⟨k, Z, hk, rfl, hown, hu, hbr⟩ := hrel
    have hz := hide hown.1
    by_cases hlt : k < n
    · obtain ⟨g, off, rfl, hb, hc⟩ := HL.out (by omega)
      obtain ⟨t, ht⟩ : ∃ t, L[k]? = some t := ⟨L[k]'(by have := hl.out; omega), List.getElem?_eq_getElem _⟩
      have hck : wr.cell? ⟨g, off + k, none⟩ = some (.int .i64 t) := (hbr.cell hb).trans (hc k t ht)
      obtain ⟨z, hzk⟩ : ∃ z, Z[k]? = some z := ⟨Z[k]'(by have := hz.out; omega), List.getElem?_eq_getElem _⟩
      have hcz : wr.cell? ⟨w.heap.size, k, none⟩ = some z := (hown.cellAt k (by omega)).trans hzk
      have hfz : wr.frozen? ⟨w.heap.size, k, none⟩ = false := hown.frozenAt k
      have hst := (hown.stored k (.int .i64 t)).1
      have H : Hid (∀ j s, j < k + 1 → L[j]? = some s → (Z.set k (.int .i64 t))[j]? = some (.int .i64 s)) := fun j s hj hs => by
        by_cases e : j = k
        · subst e; rw [ht] at hs; cases hs
          exact List.getElem?_set_self (by have := hz.out; omega)
        · rw [List.getElem?_set_ne (by omega)]
          exact hu.out j s (by omega) hs
      clear ht hc hzk
      go_wp2_with fail
      go_roundw
      case rel => exact ⟨k + 1, _, by omega, by go_num, hst, H, hbr.setCell (Nat.le_refl _) _⟩
      case measure => simp [intOf]; omega
    · have HZ : Hid (Z = L.map (Value.int .i64)) := by
        have h1 := hz.out
        have h2 := hl.out
        have h3 := hu.out
        apply List.ext_getElem? ; intro j
        rcases Nat.lt_or_ge j n with hj | hj
        · have hs : L[j]? = some (L[j]'(by omega)) := List.getElem?_eq_getElem _
          rw [h3 j _ (by omega) hs, List.getElem?_map, hs]; rfl
        · rw [List.getElem?_eq_none (by omega), List.getElem?_eq_none (by simp; omega)]
      go_wp2_with fail
      go_ret
      exact ⟨rfl, by rw [← HZ.out]; exact hown, hbr⟩

set_option maxHeartbeats 1000000 in
theorem e_toB1 (nm : ByteArray) (A : Option Addr) (n c : Nat) (F : List Int) (w : World) (hF : Ints w w.heap.size A n F) (hn : n ≤ 1048576) :
    Calls Try.prog 66 #[.agg #[.string nm, .slice A n c]] w fun e w' => ∃ b, e = .returned (.agg #[.string nm, .slice (some ⟨b, 0, none⟩) n n]) ∧ w'.ownsRow w.heap.size 3 1 (.slice (some ⟨b, 0, none⟩) n n) n (F.map (Value.int .i64)) ∧ Below w.heap.size w w' := by
  have hb3 : ∀ T S U cs ds es, Below w.heap.size w (((w.alloc (.cells cs T)).alloc (.cells ds S)).alloc (.cells es U)) := fun T S U cs ds es => (((Below.refl _ _).alloc (Nat.le_refl _) _).alloc (by simp) _).alloc (by simp; omega) _
  have Hb3 := hide hb3
  have HF := hide hF
  clear hb3 hF
  go_enter Try.func66, Try.ntmps66
  go_wp2_with fail
  have B1 : Blk (((w.alloc (.cells #[.string nm, .slice A n c] 76)).alloc (.cells #[.string { data := #[] }, .slice none 0 0] 40)).alloc (.cells #[.string nm, .slice none 0 0] 40)) (w.heap.size + 1) 40 #[.string { data := #[] }, .slice none 0 0] := by
    have h := (Blk.new (w.alloc (.cells #[.string nm, .slice A n c] 76)) 40 #[.string { data := #[] }, .slice none 0 0]).alloc (.cells #[.string nm, .slice none 0 0] 40)
    rw [World.size_alloc] at h
    exact h
  have B2 : Blk (((w.alloc (.cells #[.string nm, .slice A n c] 76)).alloc (.cells #[.string { data := #[] }, .slice none 0 0] 40)).alloc (.cells #[.string nm, .slice none 0 0] 40)) (w.heap.size + 1 + 1) 40 #[.string nm, .slice none 0 0] := by
    have h := Blk.new ((w.alloc (.cells #[.string nm, .slice A n c] 76)).alloc (.cells #[.string { data := #[] }, .slice none 0 0] 40)) 40 #[.string nm, .slice none 0 0]
    rw [World.size_alloc, World.size_alloc] at h
    exact h
  have hs3 : (((w.alloc (.cells #[.string nm, .slice A n c] 76)).alloc (.cells #[.string { data := #[] }, .slice none 0 0] 40)).alloc (.cells #[.string nm, .slice none 0 0] 40)).heap.size = w.heap.size + 3 := by simp
  have Hb03 := hide (Hb3.out 76 40 40 #[.string nm, .slice A n c] #[.string { data := #[] }, .slice none 0 0] #[.string nm, .slice none 0 0])
  have HB1 := hide B1
  have HB2 := hide B2
  have Hs3 := hide hs3
  clear B1 B2 hs3 Hb3
  generalize ((w.alloc (.cells #[.string nm, .slice A n c] 76)).alloc (.cells #[.string { data := #[] }, .slice none 0 0] 40)).alloc (.cells #[.string nm, .slice none 0 0] 40) = w3 at *
  refine (e_toI A n c F _ (HF.out.on Hb03.out) hn).mono ?_
  rintro e w4 ⟨rfl, own4, hb4⟩
  rw [Hs3.out] at own4 ⊢
  have hs4 := (own4.lt _ rfl).2
  have H1 := hide (HB1.out.below hb4 (by have := Hs3.out; omega))
  have H2 := hide (HB2.out.below hb4 (by have := Hs3.out; omega))
  have hc10 : w4.cell? ⟨w.heap.size + 1, 0, none⟩ = some (.string { data := #[] }) := H1.out.cell 0
  have hc11 : w4.cell? ⟨w.heap.size + 1, 1, none⟩ = some (.slice none 0 0) := H1.out.cell 1
  have hf10 : w4.frozen? ⟨w.heap.size + 1, 0, none⟩ = false := H1.out.frozen 0
  have hf11 : w4.frozen? ⟨w.heap.size + 1, 1, none⟩ = false := H1.out.frozen 1
  have hc20 : w4.cell? ⟨w.heap.size + 1 + 1, 0, none⟩ = some (.string nm) := H2.out.cell 0
  have hc21 : w4.cell? ⟨w.heap.size + 1 + 1, 1, none⟩ = some (.slice none 0 0) := H2.out.cell 1
  have hf21 : w4.frozen? ⟨w.heap.size + 1 + 1, 1, none⟩ = false := H2.out.frozen 1
  have Hb4 := hide (Hb03.out.trans (hb4.mono Hb03.out.size))
  have Own4 := hide own4
  clear hb4 own4
  go_wp2_with fail
  have K := ((H1.out.far (p := ⟨w.heap.size + 1 + 1, 1, none⟩) (show w.heap.size + 1 ≠ w.heap.size + 1 + 1 by omega) (.slice (some ⟨w.heap.size + 3, 0, none⟩) n n)).set_ 0 (.string nm)).set_ 1 (.slice (some ⟨w.heap.size + 3, 0, none⟩) n n)
  have k0 := K.cell 0
  have k1 := K.cell 1
  simp at k0 k1
  refine bodyPost_ret (v := .agg #[.string nm, .slice (some ⟨w.heap.size + 3, 0, none⟩) n n]) (by simp [results, Try.results66, go_sem, k0, k1]) rfl ⟨w.heap.size + 3, rfl, ?_, ?_⟩
  · have o1 := own_base Own4.out (show w.heap.size ≤ w.heap.size + 3 by omega)
    have g : ∀ (W : World) (p : Addr) (v : Value), W.grownBy (W.setCell p v) (some p.block) := fun W p v => ⟨rfl, rfl, rfl, by simp, fun k _ hk => heap_setCell_other W p k v (fun e => hk (by simp [e]))⟩
    have ne : ∀ q, q < w.heap.size + 3 → (Value.slice (some ⟨w.heap.size + 3, 0, none⟩) n n).ownBlock ≠ some q := fun q hq e => by simp [Value.ownBlock] at e; omega
    exact ((o1.kept (g _ _ _) (.inr (ne _ (by show w.heap.size + 1 + 1 < _; omega)))).kept (g _ _ _) (.inr (ne _ (by show w.heap.size + 1 < _; omega)))).kept (g _ _ _) (.inr (ne _ (by show w.heap.size + 1 < _; omega)))
  · exact ((Hb4.out.setCell (p := ⟨w.heap.size + 1 + 1, 1, none⟩) (by show w.heap.size ≤ w.heap.size + 1 + 1; omega) _).setCell (p := ⟨w.heap.size + 1, 0, none⟩) (by show w.heap.size ≤ w.heap.size + 1; omega) _).setCell (p := ⟨w.heap.size + 1, 1, none⟩) (by show w.heap.size ≤ w.heap.size + 1; omega) _
end Go.Proofs.Ytfncmkmhdddmiaa
