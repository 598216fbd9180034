/- Words of the exact laws of accounts: sizes, copies, equality. -/
import Derived.Test.YtohodhogbdcdmabNest
import Derived.Test.YtohodhogbdcdmabAv3
set_option linter.unusedVariables false
set_option linter.unusedSimpArgs false
namespace Go.Proofs.Ytohodhogbdcdmab
open Go.RowKit Go.BigFrame

/-- A size is returned: below 0, or all is small; m things of it are used up. -/
def SzR (m : Nat) (left : Nat) (e : Ending) : Prop := (e = .returned (.int .i64 (-1))) ∨ ∃ r : Nat, e = .returned (.int .i64 r) ∧ r + m ≤ left
set_option maxHeartbeats 1000000 in
theorem e_szS (A : Option Addr) (n c : Nat) (L : List ByteArray) (left : Nat) (w : World) (hL : Strs w w.heap.size A n L) (hS : Small L) (hn : n ≤ maxLen) (hl2 : left ≤ 1048576) :
    Calls Try.prog 71 #[.slice A n c, .int .i64 left] w fun e w' => SzR n left e ∧ w = w' := by
  unfold maxLen at hn
  have hl := hide hL.1
  have HL := hide hL.2
  have HS := hide hS
  clear hL hS
  by_cases h0 : left < n
  · have hlt : (left : Int) < (n : Int) := by omega
    go_enter Try.func71, Try.ntmps71
    go_wp2_with fail
    go_ret
    exact ⟨.inl rfl, rfl⟩
  obtain ⟨d, hd⟩ : ∃ d, left = d + n := ⟨left - n, by omega⟩
  have hneg : ¬ ((left : Int) - (n : Int) < 0) := by omega
  have Hd := hide hd
  clear hd h0
  go_enter Try.func71, Try.ntmps71
  go_wp2_with fail
  go_loop [1, 5] (fun r i => ∃ k x : Nat, k ≤ n ∧ i = .int .i64 k ∧ r = .int .i64 x ∧ x ≤ d) (fun _ i => n - (intOf i).toNat)
  case atStart => exact ⟨0, d, Nat.zero_le _, rfl, by have := Hd.out; go_num, Nat.le_refl _⟩
  case round =>
    obtain ⟨k, x, hk, rfl, rfl, hx⟩ := hrel
    have hx2 : x ≤ 1048576 := by have := Hd.out; omega
    by_cases hlt : k < n
    · obtain ⟨g, off, rfl, hb, hc⟩ := HL.out (by omega)
      obtain ⟨t, ht⟩ : ∃ t, L[k]? = some t := ⟨L[k]'(by have := hl.out; omega), List.getElem?_eq_getElem _⟩
      have hck := hc k t ht
      have hts := HS.out t (List.mem_of_getElem? ht)
      unfold maxLen at hts
      clear ht hc
      by_cases hxt : x < t.size
      · have hng : (x : Int) - (t.size : Int) < 0 := by omega
        go_wp2_with fail
        go_ret
        exact ⟨.inl rfl, rfl⟩
      · have hng : ¬ ((x : Int) - (t.size : Int) < 0) := by omega
        go_wp2_with fail
        go_round
        case rel => exact ⟨k + 1, x - t.size, by omega, by go_num, by go_num, by omega⟩
        case measure => simp [intOf]; omega
    · go_wp2_with fail
      go_ret
      exact ⟨.inr ⟨x, rfl, by have := Hd.out; omega⟩, rfl⟩

set_option maxHeartbeats 1000000 in
theorem e_szA1 (nm : ByteArray) (A : Option Addr) (n c : Nat) (F : List ByteArray) (x : Nat) (w : World) (hF : Strs w w.heap.size A n F) (hS : Small F) (hn : n ≤ maxLen) (hs : nm.size ≤ maxLen) (hx : x ≤ 1048576) :
    Calls Try.prog 53 #[.agg #[.string nm, .slice A n c], .int .i64 x] w fun e w' => SzR n x e ∧ Below w.heap.size w w' := by
  unfold maxLen at hs
  have HF : ∀ T, Hid (Strs (w.alloc (.cells #[.string nm, .slice A n c] T)) (w.alloc (.cells #[.string nm, .slice A n c] T)).heap.size A n F) := fun T => hide (hF.on ((Below.refl _ _).alloc (Nat.le_refl _) _))
  have HS := hide hS
  have HN := hide hn
  clear hF hS hn
  by_cases h : x < nm.size
  · have h2 : (x : Int) - (nm.size : Int) < 0 := by omega
    go_enter Try.func53, Try.ntmps53
    go_wp2_with fail
    go_ret
    exact ⟨.inl rfl, (Below.refl _ _).alloc (Nat.le_refl _) _⟩
  · have h2 : ¬ ((x : Int) - (nm.size : Int) < 0) := by omega
    obtain ⟨y, hy⟩ : ∃ y : Nat, y = x - nm.size := ⟨_, rfl⟩
    have hy2 : (x : Int) - (nm.size : Int) = (y : Int) := by omega
    have hy3 : y ≤ x := by omega
    clear hy h
    go_enter Try.func53, Try.ntmps53
    go_wp2_with fail
    refine (e_szS A n c F y _ (HF _).out HS.out HN.out (by omega)).mono ?_
    rintro e w' ⟨h, rfl⟩
    rcases h with rfl | ⟨r, rfl, hr⟩
    · go_wp2_with fail
      go_ret
      exact ⟨.inl rfl, (Below.refl _ _).alloc (Nat.le_refl _) _⟩
    · have hr0 : ¬ ((r : Int) < 0) := by omega
      go_wp2_with fail
      go_ret
      exact ⟨.inr ⟨r, rfl, by omega⟩, (Below.refl _ _).alloc (Nat.le_refl _) _⟩

/-- How many followers there are. -/
def totF (X : List Acc) : Nat := (X.map fun a => a.2.length).sum
theorem totF_take {X : List Acc} {k : Nat} {a : Acc} (h : X[k]? = some a) : totF (X.take (k + 1)) = totF (X.take k) + a.2.length := by
  unfold totF; rw [List.take_add_one, h]; simp
theorem totF_le {X : List Acc} {k : Nat} : totF (X.take k) ≤ totF X := by
  have e : totF X = totF (X.take k) + totF (X.drop k) := by
    unfold totF
    conv => lhs; rw [← List.take_append_drop k X]
    rw [List.map_append, List.sum_append]
  omega
set_option maxHeartbeats 1000000 in
theorem e_szA (A : Option Addr) (n c : Nat) (X : List Acc) (left : Nat) (w : World) (hX : Accs w w.heap.size A n X) (hS : ASmall X) (hn : n ≤ maxLen) (hl2 : left ≤ 1048576) :
    Calls Try.prog 25 #[.slice A n c, .int .i64 left] w fun e w' => SzR (n + totF X) left e ∧ Below w.heap.size w w' := by
  unfold maxLen at hn
  have hl := hide hX.1
  have HX := hide hX
  have HS := hide hS
  clear hX hS
  by_cases h0 : left < n
  · have hlt : (left : Int) < (n : Int) := by omega
    go_enter Try.func25, Try.ntmps25
    go_wp2_with fail
    go_ret
    exact ⟨.inl rfl, Below.refl _ _⟩
  obtain ⟨d, hd⟩ : ∃ d, left = d + n := ⟨left - n, by omega⟩
  have hneg : ¬ ((left : Int) - (n : Int) < 0) := by omega
  have Hd := hide hd
  clear hd h0
  go_enter Try.func25, Try.ntmps25
  go_wp2_with fail
  go_loopw [1, 5] (fun r i wr => ∃ k x : Nat, k ≤ n ∧ i = .int .i64 k ∧ r = .int .i64 x ∧ Hid (x + totF (X.take k) ≤ d) ∧ Hid (Below w.heap.size w wr)) (fun _ i _ => n - (intOf i).toNat)
  case atStart => exact ⟨0, d, Nat.zero_le _, rfl, by have := Hd.out; go_num, by simp [Hid, totF], Below.refl _ _⟩
  case round =>
    obtain ⟨k, x, hk, rfl, rfl, hx, hbr⟩ := hrel
    by_cases hlt : k < n
    · obtain ⟨a, ha⟩ : ∃ a, X[k]? = some a := ⟨X[k]'(by have := hl.out; omega), List.getElem?_eq_getElem _⟩
      obtain ⟨g, off, A', n', c', rfl, hg, hc0, hc1, hn', hm', hf⟩ := (HX.out.below hbr.out).at' ha
      have hsm := HS.out a (List.mem_of_getElem? ha)
      have Hsm := hide hsm
      have hsz := hbr.out.size
      have HF := hide (hf.strs.more hsz)
      have hE := hide (totF_take ha)
      have hlen := hide (HF.out.1)
      clear ha hf hsm
      go_wp2_with fail
      refine (e_szA1 a.1 A' n' c' a.2 x _ HF.out Hsm.out.2 hm' Hsm.out.1 (by have := Hd.out; have := hx.out; omega)).mono ?_
      rintro e w2 ⟨h, hb2⟩
      have Hb2 := hide (hbr.out.trans (hb2.mono hsz))
      clear hb2
      rcases h with rfl | ⟨r, rfl, hr⟩
      · go_wp2_with fail
        go_ret
        exact ⟨.inl rfl, Hb2.out⟩
      · have hr0 : ¬ ((r : Int) < 0) := by omega
        have Hr := hide hr
        clear hr
        go_wp2_with fail
        go_roundw
        case rel => exact ⟨k + 1, r, by omega, by go_num, by go_num, by show _ ≤ _; have h1 := hE.out; have h2 := hx.out; have h3 := Hr.out; have h4 := hlen.out; omega, Hb2.out⟩
        case measure => simp [intOf]; omega
    · have hR : X.take k = X := List.take_of_length_le (by have := hl.out; omega)
      have h2 := hx.out
      rw [hR] at h2
      have H2 := hide h2
      clear hR h2
      go_wp2_with fail
      go_ret
      exact ⟨.inr ⟨x, rfl, by have := Hd.out; have := H2.out; omega⟩, hbr.out⟩

set_option maxHeartbeats 1000000 in
theorem e_toA1 (nm : ByteArray) (A : Option Addr) (n c : Nat) (F : List ByteArray) (w : World) (hF : Strs w w.heap.size A n F) (hn : n ≤ 1048576) :
    Calls Try.prog 57 #[.agg #[.string nm, .slice A n c]] w fun e w' => ∃ b, e = .returned (.agg #[.string nm, .slice (some ⟨b, 0, none⟩) n n]) ∧ w'.ownsRow w.heap.size 9 1 (.slice (some ⟨b, 0, none⟩) n n) n (F.map Value.string) ∧ Below w.heap.size w w' := by
  have hb3 : ∀ T S U cs ds es, Below w.heap.size w (((w.alloc (.cells cs T)).alloc (.cells ds S)).alloc (.cells es U)) := fun T S U cs ds es => (((Below.refl _ _).alloc (Nat.le_refl _) _).alloc (by simp) _).alloc (by simp; omega) _
  have Hb3 := hide hb3
  have HF := hide hF
  clear hb3 hF
  go_enter Try.func57, Try.ntmps57
  go_wp2_with fail
  have B1 : Blk (((w.alloc (.cells #[.string nm, .slice A n c] 68)).alloc (.cells #[.string { data := #[] }, .slice none 0 0] 31)).alloc (.cells #[.string nm, .slice none 0 0] 31)) (w.heap.size + 1) 31 #[.string { data := #[] }, .slice none 0 0] := by
    have h := (Blk.new (w.alloc (.cells #[.string nm, .slice A n c] 68)) 31 #[.string { data := #[] }, .slice none 0 0]).alloc (.cells #[.string nm, .slice none 0 0] 31)
    rw [World.size_alloc] at h
    exact h
  have B2 : Blk (((w.alloc (.cells #[.string nm, .slice A n c] 68)).alloc (.cells #[.string { data := #[] }, .slice none 0 0] 31)).alloc (.cells #[.string nm, .slice none 0 0] 31)) (w.heap.size + 1 + 1) 31 #[.string nm, .slice none 0 0] := by
    have h := Blk.new ((w.alloc (.cells #[.string nm, .slice A n c] 68)).alloc (.cells #[.string { data := #[] }, .slice none 0 0] 31)) 31 #[.string nm, .slice none 0 0]
    rw [World.size_alloc, World.size_alloc] at h
    exact h
  have hs3 : (((w.alloc (.cells #[.string nm, .slice A n c] 68)).alloc (.cells #[.string { data := #[] }, .slice none 0 0] 31)).alloc (.cells #[.string nm, .slice none 0 0] 31)).heap.size = w.heap.size + 3 := by simp
  have Hb03 := hide (Hb3.out 68 31 31 #[.string nm, .slice A n c] #[.string { data := #[] }, .slice none 0 0] #[.string nm, .slice none 0 0])
  have HB1 := hide B1
  have HB2 := hide B2
  have Hs3 := hide hs3
  clear B1 B2 hs3 Hb3
  generalize ((w.alloc (.cells #[.string nm, .slice A n c] 68)).alloc (.cells #[.string { data := #[] }, .slice none 0 0] 31)).alloc (.cells #[.string nm, .slice none 0 0] 31) = w3 at *
  refine (e_to A n c F _ (HF.out.on Hb03.out) hn).mono ?_
  rintro e w4 ⟨rfl, own4, hb4⟩
  rw [Hs3.out] at own4 ⊢
  have hs4 := (own4.lt _ rfl).2
  have H1 := hide (HB1.out.below hb4 (by have := Hs3.out; omega))
  have H2 := hide (HB2.out.below hb4 (by have := Hs3.out; omega))
  have hc10 : w4.cell? ⟨w.heap.size + 1, 0, none⟩ = some (.string { data := #[] }) := H1.out.cell 0
  have hc11 : w4.cell? ⟨w.heap.size + 1, 1, none⟩ = some (.slice none 0 0) := H1.out.cell 1
  have hf10 : w4.frozen? ⟨w.heap.size + 1, 0, none⟩ = false := H1.out.frozen 0
  have hf11 : w4.frozen? ⟨w.heap.size + 1, 1, none⟩ = false := H1.out.frozen 1
  have hc20 : w4.cell? ⟨w.heap.size + 1 + 1, 0, none⟩ = some (.string nm) := H2.out.cell 0
  have hc21 : w4.cell? ⟨w.heap.size + 1 + 1, 1, none⟩ = some (.slice none 0 0) := H2.out.cell 1
  have hf21 : w4.frozen? ⟨w.heap.size + 1 + 1, 1, none⟩ = false := H2.out.frozen 1
  have Hb4 := hide (Hb03.out.trans (hb4.mono Hb03.out.size))
  have Own4 := hide own4
  clear hb4 own4
  go_wp2_with fail
  have K := ((H1.out.far (p := ⟨w.heap.size + 1 + 1, 1, none⟩) (show w.heap.size + 1 ≠ w.heap.size + 1 + 1 by omega) (.slice (some ⟨w.heap.size + 3, 0, none⟩) n n)).set_ 0 (.string nm)).set_ 1 (.slice (some ⟨w.heap.size + 3, 0, none⟩) n n)
  have k0 := K.cell 0
  have k1 := K.cell 1
  simp at k0 k1
  refine bodyPost_ret (v := .agg #[.string nm, .slice (some ⟨w.heap.size + 3, 0, none⟩) n n]) (by simp [results, Try.results57, go_sem, k0, k1]) rfl ⟨w.heap.size + 3, rfl, ?_, ?_⟩
  · have o1 := own_base Own4.out (show w.heap.size ≤ w.heap.size + 3 by omega)
    have g : ∀ (W : World) (p : Addr) (v : Value), W.grownBy (W.setCell p v) (some p.block) := fun W p v => ⟨rfl, rfl, rfl, by simp, fun k _ hk => heap_setCell_other W p k v (fun e => hk (by simp [e]))⟩
    have ne : ∀ q, q < w.heap.size + 3 → (Value.slice (some ⟨w.heap.size + 3, 0, none⟩) n n).ownBlock ≠ some q := fun q hq e => by simp [Value.ownBlock] at e; omega
    exact ((o1.kept (g _ _ _) (.inr (ne _ (by show w.heap.size + 1 + 1 < _; omega)))).kept (g _ _ _) (.inr (ne _ (by show w.heap.size + 1 < _; omega)))).kept (g _ _ _) (.inr (ne _ (by show w.heap.size + 1 < _; omega)))
  · exact ((Hb4.out.setCell (p := ⟨w.heap.size + 1 + 1, 1, none⟩) (by show w.heap.size ≤ w.heap.size + 1 + 1; omega) _).setCell (p := ⟨w.heap.size + 1, 0, none⟩) (by show w.heap.size ≤ w.heap.size + 1; omega) _).setCell (p := ⟨w.heap.size + 1, 1, none⟩) (by show w.heap.size ≤ w.heap.size + 1; omega) _
end Go.Proofs.Ytohodhogbdcdmab
