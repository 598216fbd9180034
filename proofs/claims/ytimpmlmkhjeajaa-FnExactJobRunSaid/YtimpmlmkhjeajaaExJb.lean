/- Words of the exact laws of jobs: sizes, copies, equality, marks. -/
import Derived.Test.YtimpmlmkhjeajaaZm
import Derived.Test.YtimpmlmkhjeajaaZe
set_option linter.unusedVariables false
set_option linter.unusedSimpArgs false
namespace Go.Proofs.Ytimpmlmkhjeajaa
open Go.RowKit

theorem own_below {w w' : World} {base : Nat} {e : TypeId} {size n : Nat} {v : Value} {xs : List Value} (h : w.ownsRow base e size v n xs) (hb : Below w.heap.size w w') : w'.ownsRow base e size v n xs :=
  h.kept (row := none) (grown_of_below hb) (by cases hh : v.ownBlock <;> simp)
/-- Another row is not this block. -/
theorem blk_not_row {W : World} {q : Nat} {t e : TypeId} {cs : Array Value} (h : Blk W q t cs) (hte : t ≠ e) {base size k : Nat} {v : Value} {xs : List Value} (hr : W.ownsRow base e size v k xs) : some q ≠ v.ownBlock := by
  rcases hr.2 with ⟨rfl, _⟩ | ⟨g, cap, cur, rfl, _, hgb, _⟩
  · simp [Value.ownBlock]
  · intro e'
    obtain rfl : q = g := by simpa [Value.ownBlock] using e'
    have := (show W.heap[q]? = _ from h).symm.trans hgb
    simp at this
    exact hte this.2
/-- A row of another block. -/
theorem own_grown {w w' : World} {row : Option Nat} {base : Nat} {e : TypeId} {size n : Nat} {v : Value} {xs : List Value} (h : w.ownsRow base e size v n xs) (hg : w.grownBy w' row) (hne : ∀ b, v.ownBlock = some b → row ≠ some b) : w'.ownsRow base e size v n xs := by
  refine h.kept hg ?_
  cases hv : v.ownBlock with
  | none => exact .inl rfl
  | some b => exact .inr (fun e => hne b hv e.symm)

set_option maxHeartbeats 1000000 in
theorem e_szJ (i d : Int) (A : Option Addr) (n c : Nat) (L : List ByteArray) (left : Nat) (w : World) (hL : Strs w w.heap.size A n L) (hS : Small L) (hn : n ≤ maxLen) (hl2 : left ≤ 1048576) :
    Calls Try.prog 40 #[.agg #[.int .i64 i, .slice A n c, .int .i64 d], .int .i64 left] w fun e w' => Sz n L left e ∧ Below w.heap.size w w' := by
  have HF : ∀ T, Hid (Strs (w.alloc (.cells #[.int .i64 i, .slice A n c, .int .i64 d] T)) (w.alloc (.cells #[.int .i64 i, .slice A n c, .int .i64 d] T)).heap.size A n L) := fun T => hide ((hL.alloc (Nat.le_refl _) _).more (by simp))
  have HF := hide HF
  have HS := hide hS
  have HN := hide hn
  clear hL hS hn
  go_enter Try.func40, Try.ntmps40
  go_wp2_with fail
  refine (e_sz A n c L left _ (HF.out _).out HS.out HN.out hl2).mono ?_
  rintro e w' ⟨h, rfl⟩
  rcases h with rfl | ⟨r, rfl, hr, hn, hsl⟩
  · go_wp2_with fail
    go_ret
    exact ⟨.inl rfl, (Below.refl _ _).alloc (Nat.le_refl _) _⟩
  · have hr0 : ¬ ((r : Int) < 0) := by omega
    have Hsl := hide hsl
    clear hsl
    go_wp2_with fail
    go_ret
    exact ⟨.inr ⟨r, rfl, hr, hn, Hsl.out⟩, (Below.refl _ _).alloc (Nat.le_refl _) _⟩

/-- A copy of a job is returned, its names in memory of the call's own. -/
def ToJ (w : World) (i d : Int) (n : Nat) (L : List ByteArray) (e : Ending) (w' : World) : Prop := ∃ g, e = .returned (.agg #[.int .i64 i, .slice (some ⟨g, 0, none⟩) n n, .int .i64 d]) ∧ w'.ownsRow w.heap.size 9 1 (.slice (some ⟨g, 0, none⟩) n n) n (L.map Value.string) ∧ Below w.heap.size w w'

set_option maxHeartbeats 1000000 in
theorem e_toJ (i d : Int) (A : Option Addr) (n c : Nat) (L : List ByteArray) (w : World) (hL : Strs w w.heap.size A n L) (hn : n ≤ 1048576) :
    Calls Try.prog 41 #[.agg #[.int .i64 i, .slice A n c, .int .i64 d]] w (ToJ w i d n L) := by
  obtain ⟨W3, hW3⟩ : ∃ W3, ((w.alloc (.cells #[.int .i64 i, .slice A n c, .int .i64 d] 57)).alloc (.cells #[.int .i64 0, .slice none 0 0, .int .i64 0] 28)).alloc (.cells #[.int .i64 i, .slice none 0 0, .int .i64 0] 28) = W3 := ⟨_, rfl⟩
  have hb3 : Below w.heap.size w W3 := by rw [← hW3]; exact (((Below.refl _ _).alloc (Nat.le_refl _) _).alloc (by simp) _).alloc (by simp; omega) _
  have hs3 : W3.heap.size = w.heap.size + 3 := by rw [← hW3]; simp
  have P0 : Blk W3 w.heap.size 57 #[.int .i64 i, .slice A n c, .int .i64 d] := by rw [← hW3]; exact ((Blk.new w _ _).alloc _).alloc _
  have P1 : Blk W3 (w.heap.size + 1) 28 #[.int .i64 0, .slice none 0 0, .int .i64 0] := by
    rw [← hW3]
    have h := (Blk.new (w.alloc (.cells #[.int .i64 i, .slice A n c, .int .i64 d] 57)) 28 #[.int .i64 0, .slice none 0 0, .int .i64 0]).alloc (.cells #[.int .i64 i, .slice none 0 0, .int .i64 0] 28)
    rw [World.size_alloc] at h
    exact h
  have P2 : Blk W3 (w.heap.size + 1 + 1) 28 #[.int .i64 i, .slice none 0 0, .int .i64 0] := by
    rw [← hW3]
    have h := Blk.new ((w.alloc (.cells #[.int .i64 i, .slice A n c, .int .i64 d] 57)).alloc (.cells #[.int .i64 0, .slice none 0 0, .int .i64 0] 28)) 28 #[.int .i64 i, .slice none 0 0, .int .i64 0]
    simp only [World.size_alloc] at h
    exact h
  have HL3 := hide ((hL.below hb3).more (show w.heap.size ≤ W3.heap.size by omega))
  have HW3 := hide hW3
  have HP0 := hide P0
  have HP1 := hide P1
  have HP2 := hide P2
  have Hb3 := hide hb3
  have Hs3 := hide hs3
  clear hL hW3 hb3 hs3 P0 P1 P2
  go_enter Try.func41, Try.ntmps41
  go_wp2_with fail
  rw [HW3.out]
  refine (e_to A n c L _ HL3.out hn).mono ?_
  rintro e w4 ⟨rfl, own4, hb4⟩
  rw [Hs3.out] at own4 ⊢
  have hs4 := (own4.lt _ rfl).2
  have Q0 := HP0.out.below hb4 (by have := Hs3.out; omega)
  have Q1 := HP1.out.below hb4 (by have := Hs3.out; omega)
  have Q2 := HP2.out.below hb4 (by have := Hs3.out; omega)
  obtain ⟨⟨a0, a1, a2⟩, _⟩ := Q0.cells3
  obtain ⟨⟨b0, b1, b2⟩, b3, b4, b5⟩ := Q1.cells3
  obtain ⟨⟨c0, c1, c2⟩, c3, c4, c5⟩ := Q2.cells3
  have K := (((Q1.far (p := ⟨w.heap.size + 1 + 1, 1, none⟩) (show w.heap.size + 1 ≠ w.heap.size + 1 + 1 by omega) (.slice (some ⟨w.heap.size + 3, 0, none⟩) n n)).far (p := ⟨w.heap.size + 1 + 1, 2, none⟩) (show w.heap.size + 1 ≠ w.heap.size + 1 + 1 by omega) (.int .i64 d)).job (a' := .int .i64 i) (b' := .slice (some ⟨w.heap.size + 3, 0, none⟩) n n) (d' := .int .i64 d))
  obtain ⟨⟨k0, k1, k2⟩, _⟩ := K.cells3
  have ne : ∀ q, q < w.heap.size + 3 → (Value.slice (some ⟨w.heap.size + 3, 0, none⟩) n n).ownBlock ≠ some q := fun q hq e => by simp [Value.ownBlock] at e; omega
  have g : ∀ (W : World) (p : Addr) (v : Value), W.grownBy (W.setCell p v) (some p.block) := fun W p v => ⟨rfl, rfl, rfl, by simp, fun k _ hk => heap_setCell_other W p k v (fun e => hk (by simp [e]))⟩
  have OE := hide (own_job (p := w.heap.size + 1) (((own_base own4 (show w.heap.size ≤ w.heap.size + 3 by omega)).kept (g _ ⟨w.heap.size + 1 + 1, 1, none⟩ (.slice (some ⟨w.heap.size + 3, 0, none⟩) n n)) (.inr (ne _ (by show w.heap.size + 1 + 1 < _; omega)))).kept (g _ ⟨w.heap.size + 1 + 1, 2, none⟩ (.int .i64 d)) (.inr (ne _ (by show w.heap.size + 1 + 1 < _; omega)))) (ne _ (by omega)) (.int .i64 i) (.slice (some ⟨w.heap.size + 3, 0, none⟩) n n) (.int .i64 d))
  have HBe := hide (below_job (p := w.heap.size + 1) (((Hb3.out.trans (hb4.mono (by have := Hs3.out; omega))).setCell (p := ⟨w.heap.size + 1 + 1, 1, none⟩) (by show w.heap.size ≤ w.heap.size + 1 + 1; omega) (.slice (some ⟨w.heap.size + 3, 0, none⟩) n n)).setCell (p := ⟨w.heap.size + 1 + 1, 2, none⟩) (by show w.heap.size ≤ w.heap.size + 1 + 1; omega) (.int .i64 d)) (by omega) (.int .i64 i) (.slice (some ⟨w.heap.size + 3, 0, none⟩) n n) (.int .i64 d))
  clear own4 hb4 Q0 Q1 Q2 K ne g
  go_wp2_with fail
  exact bodyPost_ret (v := .agg #[.int .i64 i, .slice (some ⟨w.heap.size + 3, 0, none⟩) n n, .int .i64 d]) (by simp [results, Try.results41, go_sem, k0, k1, k2]) rfl ⟨w.heap.size + 3, rfl, OE.out, HBe.out⟩

set_option maxHeartbeats 1000000 in
theorem e_eqJ (i d : Int) (A : Option Addr) (n c : Nat) (B : Option Addr) (m e' : Nat) (L : List ByteArray) (w : World) (hL : Strs w w.heap.size A n L) (hM : Strs w w.heap.size B m L) (hn : n ≤ maxLen) (hm : m ≤ maxLen) :
    Calls Try.prog 42 #[.agg #[.int .i64 i, .slice A n c, .int .i64 d], .agg #[.int .i64 i, .slice B m e', .int .i64 d]] w fun e w' => e = .returned (.bool true) ∧ Below w.heap.size w w' := by
  obtain ⟨W2, hW2⟩ : ∃ W2, (w.alloc (.cells #[.int .i64 i, .slice A n c, .int .i64 d] 28)).alloc (.cells #[.int .i64 i, .slice B m e', .int .i64 d] 28) = W2 := ⟨_, rfl⟩
  have hb2 : Below w.heap.size w W2 := by rw [← hW2]; exact ((Below.refl _ _).alloc (Nat.le_refl _) _).alloc (by simp) _
  have hs2 : W2.heap.size = w.heap.size + 2 := by rw [← hW2]; simp
  have P0 : Blk W2 w.heap.size 28 #[.int .i64 i, .slice A n c, .int .i64 d] := by rw [← hW2]; exact (Blk.new w _ _).alloc _
  have P1 : Blk W2 (w.heap.size + 1) 28 #[.int .i64 i, .slice B m e', .int .i64 d] := by
    rw [← hW2]
    have h := Blk.new (w.alloc (.cells #[.int .i64 i, .slice A n c, .int .i64 d] 28)) 28 #[.int .i64 i, .slice B m e', .int .i64 d]
    rw [World.size_alloc] at h
    exact h
  have HL2 := hide ((hL.below hb2).more (show w.heap.size ≤ W2.heap.size by omega))
  have HM2 := hide ((hM.below hb2).more (show w.heap.size ≤ W2.heap.size by omega))
  have HW2 := hide hW2
  have HN := hide hn
  have HM := hide hm
  have HP0 := hide P0
  have HP1 := hide P1
  have Hb2 := hide hb2
  clear hL hM hW2 hb2 hs2 P0 P1 hn hm
  go_enter Try.func42, Try.ntmps42
  go_wp2_with fail
  rw [HW2.out]
  refine (e_eq_t A n c B m e' L _ HL2.out HM2.out HN.out HM.out).mono ?_
  rintro e w' ⟨rfl, q, rfl⟩
  obtain ⟨⟨a0, a1, a2⟩, _⟩ := (HP0.out.drewN q).cells3
  obtain ⟨⟨b0, b1, b2⟩, _⟩ := (HP1.out.drewN q).cells3
  have HBe := hide (below_drewN Hb2.out q)
  generalize W2.drewN q = w5 at *
  go_wp2_with fail
  go_ret
  exact ⟨rfl, HBe.out⟩

set_option maxHeartbeats 1000000 in
theorem e_markJ (i d : Int) (base : Nat) (A : Option Addr) (n c k : Nat) (L : List ByteArray) (w : World) (own : w.ownsRow base 9 1 (.slice A n c) n (L.map Value.string)) (hk : 1 ≤ k) (hk2 : k ≤ 3000000) (hn : n ≤ 2000000) :
    Calls Try.prog 47 #[.agg #[.int .i64 i, .slice A n c, .int .i64 d], .int .i64 k] w fun e w' => e = .returned (.int .i64 ((k + n : Nat) : Int)) ∧ w'.ownsRow base 9 1 (.slice A n c) n ((marks k n).map Value.string) ∧ w.grownBy w' (Value.slice A n c).ownBlock := by
  have HO := hide (own.alloc (.cells #[.int .i64 i, .slice A n c, .int .i64 d] 28))
  clear own
  go_enter Try.func47, Try.ntmps47
  go_wp2_with fail
  refine (e_marks base A n c k L _ HO.out hk hk2 hn).mono ?_
  rintro e w' ⟨rfl, own', gr⟩
  have HO' := hide own'
  have HG := hide (grown_tr (World.grownBy_alloc w (.cells #[.int .i64 i, .slice A n c, .int .i64 d] 28) (Value.slice A n c).ownBlock) gr)
  clear own' gr
  go_wp2_with fail
  go_ret
  exact ⟨rfl, HO'.out, HG.out⟩

set_option maxHeartbeats 1000000 in
theorem e_heldJ (i d : Int) (A : Option Addr) (n c k : Nat) (w : World) (hL : Strs w w.heap.size A n (marks k n)) (hk : 1 ≤ k) (hk2 : k ≤ 3000000) (hn : n ≤ 2000000) :
    Calls Try.prog 48 #[.agg #[.int .i64 i, .slice A n c, .int .i64 d], .int .i64 k] w fun e w' => e = .returned (.int .i64 ((k + n : Nat) : Int)) ∧ Below w.heap.size w w' := by
  have HL := hide ((hL.alloc (Nat.le_refl _) (.cells #[.int .i64 i, .slice A n c, .int .i64 d] 28)).more (by simp : w.heap.size ≤ (w.alloc (.cells #[.int .i64 i, .slice A n c, .int .i64 d] 28)).heap.size))
  clear hL
  go_enter Try.func48, Try.ntmps48
  go_wp2_with fail
  refine (e_held A n c k _ HL.out hk hk2 hn).mono ?_
  rintro e w' ⟨rfl, hb⟩
  have HB := hide (((Below.refl w.heap.size w).alloc (Nat.le_refl _) (.cells #[.int .i64 i, .slice A n c, .int .i64 d] 28)).trans (hb.mono (by simp)))
  have hk0 : ¬ (((k + n : Nat) : Int) < 0) := by omega
  clear hb
  go_wp2_with fail
  go_ret
  exact ⟨rfl, HB.out⟩
end Go.Proofs.Ytimpmlmkhjeajaa
