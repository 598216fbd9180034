/- BoxesPut of the program; with it the program's four functions of boxes stand. -/
import Derived.Test.YtfncmkmhdddmiaaIns2
import Derived.Test.YtfncmkmhdddmiaaHx
set_option linter.unusedVariables false
set_option linter.unusedSimpArgs false
namespace Go.Proofs.Ytfncmkmhdddmiaa
open Go.RowKit Go.BigFrame

theorem pos_cons (a : ByteArray) (L : List ByteArray) (s : ByteArray) : pos (a :: L) s = if blt a s = true then pos L s + 1 else 0 := by
  unfold pos
  rw [List.takeWhile_cons]
  split <;> rfl
theorem insB_new {s : ByteArray} {id : Int} : ∀ {X : List Bx}, s ∉ bnms X → insB s id X = X.take (pos (bnms X) s) ++ [(s, [id])] ++ X.drop (pos (bnms X) s)
  | [], _ => by simp [insB]
  | b :: X, h => by
    have hb : b.1 ≠ s := fun e => h (by simp [bnms, e])
    have hX : s ∉ bnms X := fun e => h (by unfold bnms at *; simp [e])
    rw [show bnms (b :: X) = b.1 :: bnms X from rfl, pos_cons]
    unfold insB
    by_cases h1 : blt s b.1 = true
    · have h2 : blt b.1 s = false := blt_asymm h1
      rw [if_pos h1, h2]; simp
    · rw [if_neg h1, if_neg hb]
      have h2 : blt b.1 s = true := by
        cases h3 : blt b.1 s
        · exact absurd (blt_tri h3 (by simpa using h1)) hb
        · rfl
      rw [if_pos h2, insB_new hX]
      simp
theorem insB_old {s : ByteArray} {id : Int} {t : Bx} : ∀ {X : List Bx}, X[pos (bnms X) s]? = some t → t.1 = s → insB s id X = X.set (pos (bnms X) s) (s, bput t.2 id)
  | [], h, _ => by simp at h
  | b :: X, h, ht => by
    rw [show bnms (b :: X) = b.1 :: bnms X from rfl, pos_cons] at h ⊢
    unfold insB
    by_cases h2 : blt b.1 s = true
    · rw [if_pos h2] at h ⊢
      have h1 : ¬ blt s b.1 = true := by rw [blt_asymm h2]; simp
      rw [if_neg h1, if_neg (blt_ne h2), insB_old (by simpa using h) ht]
      rfl
    · rw [if_neg h2] at h ⊢
      have e : b = t := by simpa using h
      subst e
      rw [ht, blt_irrefl]
      simp
theorem pairwise_set {α : Type} {R : α → α → Prop} {L : List α} {k : Nat} {x : α} (h : L.Pairwise R) (h1 : ∀ y ∈ L, R y x) (h2 : ∀ y ∈ L, R x y) : (L.set k x).Pairwise R := by
  rw [List.pairwise_iff_getElem] at h ⊢
  intro i j hi hj hij
  simp only [List.length_set] at hi hj
  rw [List.getElem_set, List.getElem_set]
  split
  · split
    · omega
    · exact h2 _ (List.getElem_mem hj)
  · split
    · exact h1 _ (List.getElem_mem hi)
    · exact h i j hi hj hij
theorem nest_set {base B n c g k m : Nat} {Y : List BxV} {y : BxV} {L : List Int} {v : Value} {w : World} (h : NestB base w (some ⟨g, 0, none⟩) n c Y) (hy : Y[k]? = some y) (hv : w.ownsRow B 3 1 v m (L.map (Value.int .i64))) (hB : base ≤ B) (hlt : ∀ {b}, WBlk (.slice (some ⟨g, 0, none⟩) n c) Y b → b < B) :
    NestB base (w.setCell ⟨g, k * 2 + 1, none⟩ v) (some ⟨g, 0, none⟩) n c (Y.set k (y.1, L, v)) := by
  have hm : L.length = m := by have := hv.1; rw [List.length_map] at this; omega
  subst hm
  have s1 := h.row.stored (k * 2 + 1) v
  rw [wcells_set1 L v hy] at s1
  have gr : w.grownBy (w.setCell ⟨g, k * 2 + 1, none⟩ v) (some g) := ⟨rfl, rfl, rfl, by simp, fun j _ hj => heap_setCell_other _ ⟨g, k * 2 + 1, none⟩ j v (fun e => hj (by simp [e]))⟩
  have hgB : g < B := hlt (.inl rfl)
  have hvB : ∀ b, v.ownBlock = some b → B ≤ b := fun b hb => (hv.lt b hb).1
  have hYB : ∀ z ∈ Y, ∀ b, z.2.2.ownBlock = some b → b < B := fun z hz b hb => hlt (.inr ⟨z, hz, hb⟩)
  refine ⟨s1.1, fun z hz => ?_, fun z hz d hd => ?_, ?_⟩
  · rcases List.mem_or_eq_of_mem_set hz with h1 | rfl
    · exact (h.ids z h1).kept gr (.inr (fun e => h.far z h1 _ e rfl))
    · exact (own_base hv hB).kept gr (.inr (fun e => by have := hvB g e; omega))
  · rcases List.mem_or_eq_of_mem_set hz with h1 | rfl
    · exact h.far z h1 d hd
    · intro e; simp [Value.ownBlock] at e; subst e; have := hvB g hd; omega
  · exact pairwise_set h.two (fun z hz b hb e => by have := hYB z hz b hb; have := hvB b e; omega) (fun z hz b hb e => by have := hYB z hz b e; have := hvB b hb; omega)
theorem bxVset (Y : List BxV) (k : Nat) (y : BxV) : bxV (Y.set k y) = (bxV Y).set k (y.1, y.2.1) := by unfold bxV; rw [List.map_set]

set_option maxHeartbeats 4000000 in
set_option maxRecDepth 100000 in
theorem i_BoxesPut (A : Option Addr) (n c : Nat) (X : List Bx) (s : ByteArray) (id : Int) (w : World) (hX : Bxs w w.heap.size A n X) (hS : BSmall X) (hn : n ≤ maxLen) (hs : s.size ≤ maxLen) :
    Calls Try.prog 25 #[.slice A n c, .string s, .int .i64 id] w fun e w' => Own2B w (bsPutM X s id) e w' := by
  have hl := hide hX.1
  have HX := hide hX
  have HS := hide hS
  have HN := hide hn
  have Hs := hide hs
  clear hX hS hn hs
  go_enter Try.func25, Try.ntmps25
  go_wp2_with fail
  refine (i_Bs A n c X _ HX.out HS.out HN.out).mono ?_
  rintro e w1 ⟨rfl, hb1⟩
  have Hb1 := hide hb1
  have HX1 := hide (HX.out.on hb1)
  have hs1 := hb1.size
  clear hb1
  cases h1 : bxsB X
  · have H : Hid (bsPutM X s id = none) := bsPutM_1 h1
    clear h1
    go_wp2_with fail
    go_ret2
    exact ⟨_, by rw [H.out]; rfl, by rw [H.out]; exact OwnB.nil _ _, Hb1.out⟩
  have H1 := hide h1
  have hn10 : n ≤ 10 := by have h := bxsB_10 h1; have := hl.out; omega
  clear h1
  go_wp2_with fail
  refine (i_NameValid s _ Hs.out).mono ?_
  rintro e w' ⟨rfl, rfl⟩
  cases h2 : nvB s
  · have H : Hid (bsPutM X s id = none) := bsPutM_2 h2
    clear h2
    go_wp2_with fail
    go_ret2
    exact ⟨_, by rw [H.out]; rfl, by rw [H.out]; exact OwnB.nil _ _, Hb1.out⟩
  have H2 := hide h2
  clear h2
  go_wp2_with fail
  refine (copy_any A n c X w1 HX1.out hn10 (fun a ha => idsB_6 (bxsB_bx H1.out ha).2.1)).mono ?_
  rintro e w2 ⟨g, Y, rfl, hY, hN2, hb2⟩
  have HY := hide hY
  have HN2 := hide hN2
  have Hb2 := hide (Hb1.out.trans (hb2.mono hs1))
  have HX2 : Hid (Bxs w2 w2.heap.size (some ⟨g, 0, none⟩) n X) := by rw [← hY]; exact hN2.bxs
  have hs2 := hb2.size
  clear hY hN2 hb2
  go_wp2_with fail
  refine (place_any (some ⟨g, 0, none⟩) n n X s _ HX2.out (bxsB_asc H1.out) (by omega)).mono ?_
  rintro e w3 ⟨rfl, hb3⟩
  have HN3 := hide (HN2.out.below hb3)
  have w3size : w1.heap.size ≤ w3.heap.size := Nat.le_trans hs2 hb3.size
  have Hb3 := hide (Hb2.out.trans (hb3.mono (Nat.le_trans hs1 hs2)))
  have hgb := HN3.out.row.lt g rfl
  have hpl : pos (bnms X) s ≤ n := by have := pos_le (bnms X) s; rw [bnms_len] at this; have := hl.out; omega
  clear hb3
  have HYl := hide HN3.out.len
  cases hm : memB (bnms X) s
  · have hsm : s ∉ bnms X := fun h => by rw [memB_t h] at hm; cases hm
    have hins := insB_new (id := id) hsm
    obtain ⟨p, hp⟩ : ∃ p, pos (bnms X) s = p := ⟨_, rfl⟩
    rw [hp] at hins hpl ⊢
    have HZ : Hid (∀ v, bxV ((insV Y p s).set p (s, bput [] id, v)) = bsput X s id) := fun v => by
      have h1 : (X.take p).length = p := by rw [List.length_take]; have := hl.out; omega
      rw [bsput_eq (bxsB_asc H1.out), hins, bxVset, bput_nil]
      unfold insV
      rw [bxV_app, bxV_app]
      have e1 : bxV (Y.take p) = X.take p := by rw [← HY.out]; unfold bxV; rw [List.map_take]
      have e2 : bxV (Y.drop p) = X.drop p := by rw [← HY.out]; unfold bxV; rw [List.map_drop]
      rw [e1, e2, List.append_assoc, List.append_assoc, List.set_append_right _ _ (by omega), h1, Nat.sub_self]
      rfl
    have HPt : Hid ((insV Y p s)[p]? = some (s, [], .slice none 0 0)) := by
      have h1 : (Y.take p).length = p := by rw [List.length_take]; have := HYl.out; omega
      show _ = _
      unfold insV
      rw [List.append_assoc, List.getElem?_append_right (by omega), h1, Nat.sub_self]
      rfl
    clear hm hsm hins hp
    go_wp2_with fail
    refine (insert_any w1.heap.size g n p _ Y s w3 (by first | rfl | omega) HN3.out hpl (by omega) w3size).mono ?_
    rintro e w4 ⟨A4, c4, rfl, hN4, hb4⟩
    obtain ⟨g4, c4', hv4, hgb4, hgl4⟩ := hN4.row.form (Nat.succ_pos n)
    injection hv4 with e1 _ e2
    subst e1 e2
    have HN4 := hide hN4
    have w4size : w1.heap.size ≤ w4.heap.size := Nat.le_trans w3size (Nat.le_trans hb4.size (Nat.le_refl _))
    have Hb4 := hide (Hb3.out.trans (hb4.mono hs1))
    have c0 := (hN4.row.cellAt (p * 2 + 1) (by omega)).trans (wcells_at HPt.out).2
    have hpn : (p : Int) < (n : Int) + 1 := by omega
    have HL : Hid (Ints w4 w4.heap.size none 0 []) := ⟨rfl, fun h => absurd h (by omega)⟩
    have HI : Hid (idsB [] = true) := idsB_nil
    clear hN4 hb4
    go_wp2_with fail
    refine (i_BoxPut none 0 0 [] id _ HL.out (by unfold maxLen; omega)).mono ?_
    rintro e w5 ⟨v5, rfl, ⟨A5, n5, c5, rfl, own5⟩, hb5⟩
    have Hb5 := hide (Hb4.out.trans (hb5.mono Hb4.out.size))
    have hs5 := Hb5.out.size
    cases h3 : inR id
    · have H : Hid (bsPutM X s id = none) := bsPutM_3 h3
      have HB : Hid (bPutM [] id = none) := bPutM_2 h3
      rw [HB.out] at own5 ⊢
      clear h3 hb5 own5
      go_wp2_with fail
      go_ret2
      exact ⟨_, by rw [H.out]; rfl, by rw [H.out]; exact OwnB.nil _ _, Hb5.out⟩
    have H3 := hide h3
    have HB : Hid (bPutM [] id = some (bput [] id)) := bPutM_t HI.out h3
    rw [HB.out] at own5 ⊢
    have hN5 := HN4.out.below hb5
    have Own5 : Hid (w5.ownsRow w4.heap.size 3 1 (.slice A5 n5 c5) n5 ((bput [] id).map (Value.int .i64))) := own5
    have cst := (hN5.row.cellAt (p * 2 + 1) (by omega)).trans (wcells_at HPt.out).2
    have fst := hN5.row.frozenAt (p * 2 + 1)
    have HNs := hide (nest_set hN5 HPt.out Own5.out (by have := w4size; omega) (fun hb => (HN4.out.lt hb).2))
    have HE : Hid (bxV ((insV Y p s).set p (s, bput [] id, Value.slice A5 n5 c5)) = bsput X s id) := HZ.out _
    clear h3 hb5 own5 hN5
    go_wp2_with fail
    refine (i_Bs (some ⟨g4, 0, none⟩) (n + 1) c4 (bsput X s id) _ (by rw [← HE.out]; exact HNs.out.bxs) (bsput_small H1.out H2.out) (by unfold maxLen; omega)).mono ?_
    rintro e w6 ⟨rfl, hb6⟩
    have hbs := (Hb5.out.setCell (p := ⟨g4, p * 2 + 1, none⟩) (show w.heap.size ≤ g4 by omega) (Value.slice A5 n5 c5))
    have Hb6 := hide (hbs.trans (hb6.mono hbs.size))
    have HN6 := hide (HNs.out.below hb6)
    clear hb6 hbs
    cases h4 : bxsB (bsput X s id)
    · have H : Hid (bsPutM X s id = none) := bsPutM_4 h4
      clear h4
      go_wp2_with fail
      go_ret2
      exact ⟨_, by rw [H.out]; rfl, by rw [H.out]; exact OwnB.nil _ _, Hb6.out⟩
    · have H : Hid (bsPutM X s id = some (bsput X s id)) := bsPutM_t H1.out H2.out H3.out h4
      clear h4
      go_wp2_with fail
      go_ret2
      exact ⟨_, by rw [H.out]; rfl, by rw [H.out]; exact ⟨_, _, _, _, rfl, HE.out, HN6.out.down hs1⟩, Hb6.out⟩
  · have hat := (mem_pos (bxsB_asc H1.out)).1 (memB_iff.1 hm)
    obtain ⟨t, ht⟩ : ∃ t, X[pos (bnms X) s]? = some t := by
      have := (List.getElem?_eq_some_iff.1 hat).1
      rw [bnms_len] at this
      exact ⟨X[pos (bnms X) s], List.getElem?_eq_getElem _⟩
    have hts : t.1 = s := by have h := bnms_at ht; rw [hat] at h; injection h with h; exact h.symm
    have hins := insB_old (id := id) ht hts
    obtain ⟨p, hp⟩ : ∃ p, pos (bnms X) s = p := ⟨_, rfl⟩
    rw [hp] at hins ht ⊢
    have HZ : Hid (∀ v, bxV (Y.set p (s, bput t.2 id, v)) = bsput X s id) := fun v => by
      rw [bsput_eq (bxsB_asc H1.out), hins, bxVset, HY.out]
    have hpn' : p < n := by have := (List.getElem?_eq_some_iff.1 ht).1; have := hl.out; omega
    have hpn : (p : Int) < (n : Int) := by omega
    obtain ⟨u, hu⟩ : ∃ u, Y[p]? = some (t.1, t.2, u) := by rw [← HY.out] at ht; exact bxV_at ht
    rw [hts] at hu
    have hown := HN3.out.ids _ (List.mem_of_getElem? hu)
    obtain ⟨A', c', eu⟩ := own_slice hown
    have eu2 : u = .slice A' t.2.length c' := eu
    subst eu2
    have HPt := hide hu
    have HL : Hid (Ints w3 w3.heap.size A' t.2.length t.2) := Ints.of_own hown
    have HI : Hid (idsB t.2 = true) := (bxsB_bx H1.out (List.mem_of_getElem? ht)).2.1
    have h6 : t.2.length ≤ 6 := idsB_6 HI.out
    have c0 := (HN3.out.row.cellAt (p * 2 + 1) (by omega)).trans (wcells_at hu).2
    clear hm hat ht hts hins hp hu hown eu
    obtain ⟨m, hm⟩ : ∃ m, t.2.length = m := ⟨_, rfl⟩
    rw [hm] at c0 h6 HPt HL
    clear hm
    go_wp2_with fail
    refine (i_BoxPut A' m c' t.2 id _ HL.out (by unfold maxLen; omega)).mono ?_
    rintro e w5 ⟨v5, rfl, ⟨A5, n5, c5, rfl, own5⟩, hb5⟩
    have Hb5 := hide (Hb3.out.trans (hb5.mono Hb3.out.size))
    have hs5 := Hb5.out.size
    cases h3 : inR id
    · have H : Hid (bsPutM X s id = none) := bsPutM_3 h3
      have HB : Hid (bPutM t.2 id = none) := bPutM_2 h3
      rw [HB.out] at own5 ⊢
      clear h3 hb5 own5
      go_wp2_with fail
      go_ret2
      exact ⟨_, by rw [H.out]; rfl, by rw [H.out]; exact OwnB.nil _ _, Hb5.out⟩
    have H3 := hide h3
    have HB : Hid (bPutM t.2 id = some (bput t.2 id)) := bPutM_t HI.out h3
    rw [HB.out] at own5 ⊢
    have hN5 := HN3.out.below hb5
    have Own5 : Hid (w5.ownsRow w3.heap.size 3 1 (.slice A5 n5 c5) n5 ((bput t.2 id).map (Value.int .i64))) := own5
    have cst := (hN5.row.cellAt (p * 2 + 1) (by omega)).trans (wcells_at HPt.out).2
    have fst := hN5.row.frozenAt (p * 2 + 1)
    have HNs := hide (nest_set hN5 HPt.out Own5.out (by have := w3size; omega) (fun hb => (HN3.out.lt hb).2))
    have HE : Hid (bxV (Y.set p (s, bput t.2 id, Value.slice A5 n5 c5)) = bsput X s id) := HZ.out _
    clear h3 hb5 own5 hN5
    go_wp2_with fail
    refine (i_Bs (some ⟨g, 0, none⟩) (n) n (bsput X s id) _ (by rw [← HE.out]; exact HNs.out.bxs) (bsput_small H1.out H2.out) (by unfold maxLen; omega)).mono ?_
    rintro e w6 ⟨rfl, hb6⟩
    have hbs := (Hb5.out.setCell (p := ⟨g, p * 2 + 1, none⟩) (show w.heap.size ≤ g by omega) (Value.slice A5 n5 c5))
    have Hb6 := hide (hbs.trans (hb6.mono hbs.size))
    have HN6 := hide (HNs.out.below hb6)
    clear hb6 hbs
    cases h4 : bxsB (bsput X s id)
    · have H : Hid (bsPutM X s id = none) := bsPutM_4 h4
      clear h4
      go_wp2_with fail
      go_ret2
      exact ⟨_, by rw [H.out]; rfl, by rw [H.out]; exact OwnB.nil _ _, Hb6.out⟩
    · have H : Hid (bsPutM X s id = some (bsput X s id)) := bsPutM_t H1.out H2.out H3.out h4
      clear h4
      go_wp2_with fail
      go_ret2
      exact ⟨_, by rw [H.out]; rfl, by rw [H.out]; exact ⟨_, _, _, _, rfl, HE.out, HN6.out.down hs1⟩, Hb6.out⟩
end Go.Proofs.Ytfncmkmhdddmiaa
