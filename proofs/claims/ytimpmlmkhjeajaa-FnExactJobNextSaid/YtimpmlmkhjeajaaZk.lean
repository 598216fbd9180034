/- Texts joined: Ijv, Inj. -/
import Derived.Test.YtimpmlmkhjeajaaZe
import Derived.Test.YtimpmlmkhjeajaaZi
import Derived.Test.YtimpmlmkhjeajaaInx
import Derived.IntWalk

/- JobValid, JobNew of the program. -/
set_option linter.unusedVariables false
set_option linter.unusedSimpArgs false
namespace Go.Proofs.Ytimpmlmkhjeajaa
open Go.RowKit

set_option maxHeartbeats 1000000 in
set_option maxRecDepth 100000 in
theorem j_valid (i d : Int) (A : Option Addr) (n c : Nat) (L : List ByteArray) (w : World) (hL : Strs w w.heap.size A n L) (hS : Small L) (hn : n ≤ maxLen) :
    Calls Try.prog 68 #[.agg #[.int .i64 i, .slice A n c, .int .i64 d]] w fun e w' => e = .returned (.bool (jbB (i, L, d))) ∧ Below w.heap.size w w' := by
  have HN := hide hn
  unfold maxLen at hn
  have hl := hide hL.1
  have HL : ∀ T, Hid (Strs (w.alloc (.cells #[.int .i64 i, .slice A n c, .int .i64 d] T)) (w.alloc (.cells #[.int .i64 i, .slice A n c, .int .i64 d] T)).heap.size A n L) := fun T => hide ((hL.alloc (Nat.le_refl _) _).more (by simp))
  have HL := hide HL
  have HS := hide hS
  clear hL hS
  go_enter Try.func68, Try.ntmps68
  go_wp2_with fail
  refine (p_id i _).mono ?_
  rintro e w' ⟨rfl, rfl⟩
  cases h1 : inR i
  · have H : Hid (jbB (i, L, d) = false) := jbB_1 h1
    clear h1
    go_wp2_with fail
    go_ret
    exact ⟨ret_bool H.out.symm, (Below.refl _ _).alloc (Nat.le_refl _) _⟩
  have H1 : Hid (inR i = true) := h1
  clear h1
  go_wp2_with fail
  refine (i_NamesValid A n c L _ (HL.out _).out HS.out HN.out).mono ?_
  rintro e w' ⟨rfl, rfl⟩
  cases h2 : nsB L
  · have H : Hid (jbB (i, L, d) = false) := jbB_2 h2
    clear h2
    go_wp2_with fail
    go_ret
    exact ⟨ret_bool H.out.symm, (Below.refl _ _).alloc (Nat.le_refl _) _⟩
  by_cases h3 : 0 ≤ d
  · have H : Hid (jbB (i, L, d) = decide (d ≤ (n : Int))) := by show _ = _; rw [jbB_t H1.out h2, ← hl.out]; simp [h3]
    clear h2
    go_wp2_with fail
    go_ret
    exact ⟨ret_bool H.out.symm, (Below.refl _ _).alloc (Nat.le_refl _) _⟩
  · have H : Hid (jbB (i, L, d) = false) := by show _ = _; rw [jbB_t H1.out h2]; simp [h3]
    clear h2
    go_wp2_with fail
    go_ret
    exact ⟨ret_bool H.out.symm, (Below.refl _ _).alloc (Nat.le_refl _) _⟩

set_option maxHeartbeats 1000000 in
set_option maxRecDepth 100000 in
theorem i_JobValid (i d : Int) (A : Option Addr) (n c : Nat) (L : List ByteArray) (w : World) (hL : Strs w w.heap.size A n L) (hS : Small L) (hn : n ≤ maxLen) :
    Calls Try.prog 23 #[.agg #[.int .i64 i, .slice A n c, .int .i64 d]] w fun e w' => e = .returned (.bool (jbB (i, L, d))) ∧ Below w.heap.size w w' := by
  have HN := hide hn
  have HL : ∀ T, Hid (Strs (w.alloc (.cells #[.int .i64 i, .slice A n c, .int .i64 d] T)) (w.alloc (.cells #[.int .i64 i, .slice A n c, .int .i64 d] T)).heap.size A n L) := fun T => hide ((hL.alloc (Nat.le_refl _) _).more (by simp))
  have HL := hide HL
  have HS := hide hS
  clear hL hS hn
  go_enter Try.func23, Try.ntmps23
  go_wp2_with fail
  refine (j_valid i d A n c L _ (HL.out _).out HS.out HN.out).mono ?_
  rintro e w1 ⟨rfl, hb1⟩
  have Hb1 := hide hb1
  clear hb1
  go_wp2_with fail
  go_ret
  exact ⟨rfl, ((Below.refl _ _).alloc (Nat.le_refl _) _).trans (Hb1.out.mono (by simp))⟩

set_option maxHeartbeats 2000000 in
set_option maxRecDepth 100000 in
theorem i_JobNew (A : Option Addr) (n c : Nat) (X : List Acc) (s : ByteArray) (id : Int) (w : World) (hX : Accs w w.heap.size A n X) (hS : ASmall X) (hn : n ≤ maxLen) (hs : s.size ≤ maxLen) :
    Calls Try.prog 20 #[.slice A n c, .string s, .int .i64 id] w fun e w' => Own2J w (jNewM X s id) e w' := by
  have HX := hide hX
  have HS := hide hS
  have HN := hide hn
  have Hs := hide hs
  have HB0 := hide (Blk.new w 28 #[.int .i64 0, .slice none 0 0, .int .i64 0])
  have Hb0 := hide ((Below.refl w.heap.size w).alloc (Nat.le_refl _) (.cells #[.int .i64 0, .slice none 0 0, .int .i64 0] 28))
  have hs0 : (w.alloc (.cells #[.int .i64 0, .slice none 0 0, .int .i64 0] 28)).heap.size = w.heap.size + 1 := by simp
  have HX0 := hide ((hX.below Hb0.out).up (Nat.le_trans (Nat.le_succ _) (Nat.le_of_eq hs0.symm)))
  have Hs0 := hide hs0
  clear hX hS hn hs0 hs
  go_enter Try.func20, Try.ntmps20
  go_wp2_with fail
  refine (i_book A n c X _ HX0.out HS.out HN.out).mono ?_
  rintro e w1 (⟨hv, rfl, hb1⟩ | ⟨hv, b, rfl, hb, hbk, hb1⟩)
  · have HB1 := hide (HB0.out.below hb1 (by rw [Hs0.out]; omega))
    have Hb1 := hide (Hb0.out.trans (hb1.mono (by rw [Hs0.out]; omega)))
    have hs1 : w.heap.size + 1 ≤ w1.heap.size := by have h := hb1.size; rw [Hs0.out] at h; exact h
    obtain ⟨⟨c10, c11, c12⟩, f10, f11, f12⟩ := HB1.out.cells3
    have H : Hid (jNewM X s id = none) := jNew_1 hv
    have hrun : (Instr.lookup 83 (.map none) (.string s) true).run Try.prog w1 = .ok (.tuple #[.slice none 0 0, .bool false]) w1 := by simpa using Maps.look_nil (w := w1) true keyT Try.underlying83 (zeroN w1) (keyOf_s Hs.out)
    clear hb1 hv
    have HBe := HB1.out.job (a' := .int .i64 0) (b' := .slice none 0 0) (d' := .int .i64 0)
    obtain ⟨⟨e0, e1, e2⟩, _⟩ := HBe.cells3
    have Hbe := hide (below_job Hb1.out (Nat.le_refl _) (.int .i64 0) (.slice none 0 0) (.int .i64 0))
    clear HBe
    go_wp2_with fail
    exact bodyPost_ret (v := .tuple #[.agg #[.int .i64 0, .slice none 0 0, .int .i64 0], .bool false]) (by simp [results, Try.results20, go_sem, e0, e1, e2]) rfl ⟨_, by rw [H.out]; rfl, by rw [H.out]; exact ⟨none, 0, 0, rfl, World.ownsRow_nil _ _ _ _⟩, Hbe.out⟩
  have HB1 := hide (HB0.out.below hb1 (by rw [Hs0.out]; omega))
  have Hb1 := hide (Hb0.out.trans (hb1.mono (by rw [Hs0.out]; omega)))
  have hs1 : w.heap.size + 1 ≤ w1.heap.size := by have h := hb1.size; rw [Hs0.out] at h; exact h
  obtain ⟨⟨c10, c11, c12⟩, f10, f11, f12⟩ := HB1.out.cells3
  obtain ⟨v, hrun, hf⟩ := hbk.look2 Hs.out
  have hf0 := hf
  obtain ⟨A', n', c', e, _⟩ := hf0
  subst e
  have Hf := hide (hf.more (ok' := (· < w1.heap.size)) (fun g hg => Nat.lt_of_lt_of_le hg hb1.size))
  have hlen := fol_len hv s
  have hn' : n' ≤ 1000000 := by have h1 := hf.strs.1; omega
  have Hv := hide hv
  clear hb1 hbk hb hf hlen hv
  cases h2 : memB (nms X) s
  · have H : Hid (jNewM X s id = none) := jNew_2 h2
    rw [h2] at hrun
    clear h2
    have HBe := HB1.out.job (a' := .int .i64 0) (b' := .slice none 0 0) (d' := .int .i64 0)
    obtain ⟨⟨e0, e1, e2⟩, _⟩ := HBe.cells3
    have Hbe := hide (below_job Hb1.out (Nat.le_refl _) (.int .i64 0) (.slice none 0 0) (.int .i64 0))
    clear HBe
    go_wp2_with fail
    exact bodyPost_ret (v := .tuple #[.agg #[.int .i64 0, .slice none 0 0, .int .i64 0], .bool false]) (by simp [results, Try.results20, go_sem, e0, e1, e2]) rfl ⟨_, by rw [H.out]; rfl, by rw [H.out]; exact ⟨none, 0, 0, rfl, World.ownsRow_nil _ _ _ _⟩, Hbe.out⟩
  rw [h2] at hrun
  have H2 := hide h2
  clear h2
  go_wp2_with fail
  refine (p_id id _).mono ?_
  rintro e w' ⟨rfl, rfl⟩
  cases h3 : inR id
  · have H : Hid (jNewM X s id = none) := jNew_3 h3
    clear h3
    have HBe := HB1.out.job (a' := .int .i64 0) (b' := .slice none 0 0) (d' := .int .i64 0)
    obtain ⟨⟨e0, e1, e2⟩, _⟩ := HBe.cells3
    have Hbe := hide (below_job Hb1.out (Nat.le_refl _) (.int .i64 0) (.slice none 0 0) (.int .i64 0))
    clear HBe
    go_wp2_with fail
    exact bodyPost_ret (v := .tuple #[.agg #[.int .i64 0, .slice none 0 0, .int .i64 0], .bool false]) (by simp [results, Try.results20, go_sem, e0, e1, e2]) rfl ⟨_, by rw [H.out]; rfl, by rw [H.out]; exact ⟨none, 0, 0, rfl, World.ownsRow_nil _ _ _ _⟩, Hbe.out⟩
  have H : Hid (jNewM X s id = some (id, fol X s, 0)) := jNew_t Hv.out H2.out h3
  clear h3
  go_wp2_with fail
  refine (clone_any A' n' c' _ _ Hf.out hn').mono ?_
  rintro e w2 ⟨v, rfl, ⟨A2, n2, c2, rfl, own2⟩, hb2⟩
  have HB2 := hide (HB1.out.below hb2 (by omega))
  have Hb2 := hide (Hb1.out.trans (hb2.mono (by omega)))
  have Own2 := hide (own_base own2 (show w.heap.size ≤ _ by omega))
  have hne : (Value.slice A2 n2 c2).ownBlock ≠ some w.heap.size := fun e => by have := (own2.lt _ e).1; omega
  have OwnE := hide (own_job Own2.out hne (.int .i64 id) (.slice A2 n2 c2) (.int .i64 0))
  obtain ⟨⟨c20, c21, c22⟩, f20, f21, f22⟩ := HB2.out.cells3
  have HBe := HB2.out.job (a' := .int .i64 id) (b' := .slice A2 n2 c2) (d' := .int .i64 0)
  obtain ⟨⟨e0, e1, e2⟩, _⟩ := HBe.cells3
  have Hbe := hide (below_job Hb2.out (Nat.le_refl _) (.int .i64 id) (.slice A2 n2 c2) (.int .i64 0))
  clear hb2 own2 hne HBe
  go_wp2_with fail
  exact bodyPost_ret (v := .tuple #[.agg #[.int .i64 id, .slice A2 n2 c2, .int .i64 0], .bool true]) (by simp [results, Try.results20, go_sem, e0, e1, e2]) rfl ⟨_, by rw [H.out]; rfl, by rw [H.out]; exact ⟨_, _, _, rfl, OwnE.out⟩, Hbe.out⟩
end Go.Proofs.Ytimpmlmkhjeajaa

/- JobNext of the program. -/
set_option linter.unusedVariables false
set_option linter.unusedSimpArgs false
namespace Go.Proofs.Ytimpmlmkhjeajaa
open Go.RowKit Go.Shelf

set_option maxHeartbeats 1000000 in
theorem cloneS (A : Option Addr) (n c : Nat) (L : List ByteArray) (w : World) (hL : Strs w w.heap.size A n L) (hn2 : n ≤ 1000000) :
    Calls Try.prog 72 #[.slice A n c] w fun e w' => Own1 w L e w' := by
  obtain ⟨i0, hi0, hz0, hz1, hz2⟩ := info_parts str_info
  have hU := Try.underlying26
  have q24 : ∀ (w : World) (a : Option Addr) (n c n' c' : Nat), (binOp .eql 26 (.slice a n c) (.slice none n' c')).run Try.prog w = .ok (.bool a.isNone) w := fun w a n c n' c' => Lib.run_eql_slice_nil w _ _ a n c n' c' hU
  have b1 : 0 + n ≤ maxLen := by unfold maxLen; omega
  have b2 : (0 + n) * 16 ≤ 140737488355328 := by omega
  rcases A with _ | ad
  · have h0 : n = 0 := by
      rcases Nat.eq_zero_or_pos n with h | h
      · exact h
      · obtain ⟨_, _, e, _⟩ := hL.2 h; cases e
    have hLe : Hid (L = []) := List.eq_nil_of_length_eq_zero (by have := hL.1; omega)
    clear hL h0 b1 b2
    go_enter Try.func72, Try.ntmps72
    go_wp2_with fail
    go_ret
    exact ⟨_, rfl, by rw [hLe.out]; exact OwnL.nil _ _, Below.refl _ _⟩
  · have own0 := hide (World.ownsRow_lit (size := 1) (e := 9) (base := w.heap.size) w #[] 0 (Nat.le_refl _) (Nat.zero_le _) rfl)
    have src := hide ((Rd.of_strs hL).alloc (Nat.le_refl _) (.cells #[] 9))
    clear hL
    go_enter Try.func72, Try.ntmps72
    go_wp2_with (
      (at_builtin
       refine wpList_append_rd _ rfl (.tmp 5) (.tmp 6) _ rfl w.heap.size 9 i0 _ 1 16 hU hi0 hz0 hz1 hz2 rfl (by omega) _ 0 [] rfl own0.out w.heap.size (some ad) n _ (L.map Value.string) rfl src.out (one_strs _) b1 b2 (by simp) ?_
       intro v4 w4 own4 gr4 at4
       have hb4 : Below w.heap.size w w4 := Below.own ((Below.refl _ _).alloc (Nat.le_refl _) _) gr4 own0.out (Nat.le_refl _) (by simp)
       clear gr4 at4))
    go_ret
    exact ⟨v4, rfl, OwnL.mk own4 (by rw [List.nil_append]), hb4⟩

theorem i_Collect (Bm Bj : Nat) (Q : Nat → Prop) (N : List ByteArray) (hN : N.length ≤ 1000) (w : World) (hQ : ∀ b, Q b → b < w.heap.size)
    (hseq : SeqStopsK Fence.wide 1 Try.prog 107 #[.pointer (some ⟨Bm, 0, none⟩), .pointer (some ⟨Bj, 0, none⟩)] (fun s : ByteArray => #[Value.string s]) (KpJ Q) (fun ys => ys = N) (fun pre => pre <+: N) N.length w) :
    Calls Try.prog 70 #[.func (.func 107) #[] #[.pointer (some ⟨Bm, 0, none⟩), .pointer (some ⟨Bj, 0, none⟩)]] w fun e w' =>
      ∃ A c, e = .returned (.slice A N.length c) ∧ w'.ownsRow w.heap.size 9 1 (.slice A N.length c) N.length (N.map Value.string) ∧ Below w.heap.size w w' := by
  refine ((callsIn_wide (n := 3)).1 (nx_coll 3 (Nat.le_refl _) Bm Bj Q N hN w hQ hseq)).mono ?_
  rintro e w' ⟨v, rfl, hrow, hb⟩
  obtain ⟨A, c, e⟩ := own_slice hrow
  subst e
  exact ⟨A, c, rfl, hrow, hb⟩

theorem fin_clone {w1 w3 w4 : World} {v u : Value} {k n : Nat} {M L : List ByteArray} (own3 : w3.ownsRow w1.heap.size 9 1 v k (M.map Value.string)) (hb3 : Below w1.heap.size w1 w3) (own4 : w4.ownsRow w3.heap.size 9 1 u n (L.map Value.string)) (hb4 : Below w3.heap.size w3 w4) : Fin w1 w4 v u k n M L :=
  ⟨own3.kept (row := none) (grown_of_below hb4) (by cases hh : v.ownBlock <;> simp), own_base own4 hb3.size, fun b hb e => by have h1 := (own3.lt b hb).2; have h2 := (own4.lt b e).1; omega, hb3.trans (hb4.mono hb3.size)⟩

set_option maxHeartbeats 4000000 in
set_option maxRecDepth 100000 in
theorem i_JobNext (i d many : Int) (A : Option Addr) (n c : Nat) (L : List ByteArray) (w : World) (hL : Strs w w.heap.size A n L) (hS : Small L) (hn : n ≤ maxLen) (hnc : n ≤ c) :
    Calls Try.prog 27 #[.agg #[.int .i64 i, .slice A n c, .int .i64 d], .int .i64 many] w fun e w' => Own3J w (jNextM (i, L, d) many) e w' := by
  have HN := hide hn
  unfold maxLen at hn
  have hl := hide hL.1
  have HS := hide hS
  have HA0 := hide ((Blk.new w 28 #[.int .i64 i, .slice A n c, .int .i64 d]).alloc (.cells #[.int .i64 0, .slice none 0 0, .int .i64 0] 28))
  have hb0 : Below w.heap.size w ((w.alloc (.cells #[.int .i64 i, .slice A n c, .int .i64 d] 28)).alloc (.cells #[.int .i64 0, .slice none 0 0, .int .i64 0] 28)) := ((Below.refl _ _).alloc (Nat.le_refl _) _).alloc (by simp) _
  have hs0 : ((w.alloc (.cells #[.int .i64 i, .slice A n c, .int .i64 d] 28)).alloc (.cells #[.int .i64 0, .slice none 0 0, .int .i64 0] 28)).heap.size = w.heap.size + 1 + 1 := by simp
  have HL0 := hide ((hL.below hb0).more (Nat.le_trans (show w.heap.size ≤ w.heap.size + 1 + 1 by omega) (Nat.le_of_eq hs0.symm)))
  have Hb0 := hide hb0
  have Hs0 := hide hs0
  obtain ⟨⟨a00, a01, a02⟩, _⟩ := HA0.out.cells3
  clear hL hS hb0 hs0
  have HB0 : Hid (Blk ((w.alloc (.cells #[.int .i64 i, .slice A n c, .int .i64 d] 28)).alloc (.cells #[.int .i64 0, .slice none 0 0, .int .i64 0] 28)) (w.heap.size + 1) 28 #[.int .i64 0, .slice none 0 0, .int .i64 0]) := by
    have h := Blk.new (w.alloc (.cells #[.int .i64 i, .slice A n c, .int .i64 d] 28)) 28 #[.int .i64 0, .slice none 0 0, .int .i64 0]
    rw [World.size_alloc] at h
    exact h
  go_enter Try.func27, Try.ntmps27
  go_wp2_with fail
  refine (i_JobValid i d A n c L _ HL0.out HS.out HN.out).mono ?_
  rintro e w1 ⟨rfl, hb1⟩
  have HA1 := hide (HA0.out.below hb1 (by rw [Hs0.out]; omega))
  have HB1 := hide (HB0.out.below hb1 (by rw [Hs0.out]; omega))
  have Hb1 := hide (Hb0.out.trans (hb1.mono (by rw [Hs0.out]; omega)))
  have hs1 : w.heap.size + 1 + 1 ≤ w1.heap.size := by have h := hb1.size; rw [Hs0.out] at h; exact h
  have HL1 := hide (HL0.out.on' hb1)
  obtain ⟨⟨a10, a11, a12⟩, _⟩ := HA1.out.cells3
  obtain ⟨⟨c10, c11, c12⟩, f10, f11, f12⟩ := HB1.out.cells3
  clear hb1 a00 a01 a02
  cases h1 : jbB (i, L, d)
  · have H : Hid (jNextM (i, L, d) many = none) := jNext_1 h1
    clear h1
    have HBe := HB1.out.job (a' := .int .i64 0) (b' := .slice none 0 0) (d' := .int .i64 0)
    obtain ⟨⟨e0, e1, e2⟩, _⟩ := HBe.cells3
    have Hbe := hide (below_job (p := w.heap.size + 1) Hb1.out (by omega) (.int .i64 0) (.slice none 0 0) (.int .i64 0))
    clear HBe
    go_wp2_with fail
    exact bodyPost_ret (v := .tuple #[.slice none 0 0, .agg #[.int .i64 0, .slice none 0 0, .int .i64 0], .bool false]) (by simp [results, Try.results27, go_sem, e0, e1, e2]) rfl (by rw [H.out]; exact ⟨none, 0, 0, none, 0, 0, rfl, World.ownsRow_nil _ _ _ _, World.ownsRow_nil _ _ _ _, fun b _ e => by simp [Value.ownBlock] at e, Hbe.out⟩)
  by_cases hm : many < 0
  · have H : Hid (jNextM (i, L, d) many = none) := jNext_2 hm
    clear h1
    have HBe := HB1.out.job (a' := .int .i64 0) (b' := .slice none 0 0) (d' := .int .i64 0)
    obtain ⟨⟨e0, e1, e2⟩, _⟩ := HBe.cells3
    have Hbe := hide (below_job (p := w.heap.size + 1) Hb1.out (by omega) (.int .i64 0) (.slice none 0 0) (.int .i64 0))
    clear HBe
    go_wp2_with fail
    exact bodyPost_ret (v := .tuple #[.slice none 0 0, .agg #[.int .i64 0, .slice none 0 0, .int .i64 0], .bool false]) (by simp [results, Try.results27, go_sem, e0, e1, e2]) rfl (by rw [H.out]; exact ⟨none, 0, 0, none, 0, 0, rfl, World.ownsRow_nil _ _ _ _, World.ownsRow_nil _ _ _ _, fun b _ e => by simp [Value.ownBlock] at e, Hbe.out⟩)
  have H : Hid (jNextM (i, L, d) many = some (jNms (i, L, d) many, jTo (i, L, d) many)) := jNext_t h1 (by omega)
  have hd := jbB_iff.1 h1
  have hd1 : 0 ≤ d := hd.2.2.1
  obtain ⟨dn, rfl⟩ : ∃ dn : Nat, d = (dn : Int) := ⟨d.toNat, by omega⟩
  have hd2 : dn ≤ n := by have := hd.2.2.2; have h2 := hl.out; simp only at this; omega
  have hn10 : n ≤ 10 := by have := jb_10 h1; have h2 := hl.out; simp only at this; omega
  have hNl := jNms_len h1 many
  have hEle := jEnd_le (i, L, (dn : Int)) many
  have hEge := jEnd_ge h1 many
  simp only [Int.toNat_natCast] at hNl hEle hEge
  obtain ⟨N, hNe⟩ : ∃ N, jNms (i, L, (dn : Int)) many = N := ⟨_, rfl⟩
  obtain ⟨k, hk⟩ : ∃ k, N.length = k := ⟨_, rfl⟩
  have HE : Hid (((jEnd (i, L, (dn : Int)) many : Nat) : Int) = (dn : Int) + (k : Int)) := by show _ = _; rw [hNe, hk] at hNl; omega
  have hk10 : k ≤ 10 := by rw [hNe, hk] at hNl; have := hl.out; omega
  -- the two blocks that the iterator reads
  have HA2 := Blk.new w1 28 #[.int .i64 i, .slice A n c, .int .i64 (dn : Int)]
  have HA3 := HA2.alloc (.cells #[.int .i64 many] 3)
  obtain ⟨⟨_, t1, t2⟩, _⟩ := HA3.cells3
  have hb2 : Below w1.heap.size w1 ((w1.alloc (.cells #[.int .i64 i, .slice A n c, .int .i64 (dn : Int)] 28)).alloc (.cells #[.int .i64 many] 3)) := ((Below.refl _ _).alloc (Nat.le_refl _) _).alloc (by simp) _
  have hs2 : ((w1.alloc (.cells #[.int .i64 i, .slice A n c, .int .i64 (dn : Int)] 28)).alloc (.cells #[.int .i64 many] 3)).heap.size = w1.heap.size + 1 + 1 := by simp
  have hbm := (Boxed.new (w1.alloc (.cells #[.int .i64 i, .slice A n c, .int .i64 (dn : Int)] 28)) 3 (.int .i64 many)).cell
  rw [World.size_alloc] at hbm
  have HSEQ : Hid (SeqStopsK Fence.wide 1 Try.prog 107 #[.pointer (some ⟨w1.heap.size + 1, 0, none⟩), .pointer (some ⟨w1.heap.size, 0, none⟩)] (fun s : ByteArray => #[Value.string s]) (KpJ (· < w1.heap.size + 1 + 1)) (fun ys => ys = N) (fun pre => pre <+: N) N.length ((w1.alloc (.cells #[.int .i64 i, .slice A n c, .int .i64 (dn : Int)] 28)).alloc (.cells #[.int .i64 many] 3))) := by
    rw [← hNe]
    exact nx_stops (fun s : ByteArray => s) _ 1 (Nat.le_refl _) _ _ w1.heap.size (· < w1.heap.size + 1 + 1) i many dn n c A L (List.map_id' _) _ (HL1.out.below hb2) h1 (by omega) hbm t1 t2 (by show w1.heap.size < _; omega) (fun g hg => by show g < _; omega) (by rw [hs2]; omega) (by rw [hs2]; omega) (by rw [hs2]; omega)
  have HQ : Hid (∀ b, b < w1.heap.size + 1 + 1 → b < ((w1.alloc (.cells #[.int .i64 i, .slice A n c, .int .i64 (dn : Int)] 28)).alloc (.cells #[.int .i64 many] 3)).heap.size) := fun b hb => by rw [hs2]; exact hb
  have Hb2 := hide hb2
  have Hk := hide hk
  have hN1000 : N.length ≤ 1000 := by omega
  have HNe := hide hNe
  have Hs2 := hide hs2
  clear h1 hd hNl hEle hEge hNe hk HA2 HA3 t1 t2 hb2 hs2 hbm
  go_wp2_with fail
  refine (i_nextJ i (dn : Int) many A n c w1).mono ?_
  rintro e w' ⟨rfl, rfl⟩
  go_wp2_with fail
  refine (i_Collect _ _ _ N hN1000 _ HQ.out HSEQ.out).mono ?_
  rintro e w3 ⟨A3, c3, rfl, own3, hb3⟩
  rw [Hk.out] at own3 ⊢
  have hs3 : w1.heap.size + 1 + 1 ≤ w3.heap.size := by have h := hb3.size; rw [Hs2.out] at h; exact h
  have Own3 := hide (own_base own3 (show w1.heap.size ≤ _ by rw [Hs2.out]; omega))
  have hb13 := Hb2.out.trans (hb3.mono (by rw [Hs2.out]; omega))
  have HB3 := HB1.out.below hb13 (by omega)
  have HA3 := HA1.out.below hb13 (by omega)
  obtain ⟨⟨a30, a31, a32⟩, _⟩ := HA3.cells3
  have HL3 := hide (HL1.out.on' hb13)
  have Hb13 := hide hb13
  have HA3 := hide HA3
  have HB3 := hide HB3
  have hsum : IntKind.i64.wrap ((dn : Int) + (k : Int)) = (dn : Int) + (k : Int) := IntWalk.i64_in _ (by omega)
  have hbD : Below w3.heap.size w3 w3.drew := (Below.refl _ _).drew
  have HbD := hide hbD
  have hn6 : n ≤ 1000000 := by omega
  clear own3 hb3 hb13 a10 a11 a12 c10 c11 c12 f10 f11 f12 hbD
  go_wp2_with fail
  go_region_held3 (fun w' => w'.cell? ⟨w.heap.size, 0, none⟩ = some (.int .i64 i) ∧ w'.cell? ⟨w.heap.size, 1, none⟩ = some (.slice A n c) ∧ w'.cell? ⟨w.heap.size, 2, none⟩ = some (.int .i64 (dn : Int))) (first | exact HA4.out | go_keep) (first
    | (go_at_call 72
       refine (cloneS A n c L _ (by exact HL3.out) hn6).mono ?_
       rintro e w4 ⟨v4, rfl, ⟨A4, n4, c4, rfl, own4⟩, hb4⟩
       have hb4' : Below w3.heap.size w3 w4 := HbD.out.trans hb4
       obtain rfl : n4 = n := by have h1 := own4.1; have h2 := hl.out; rw [List.length_map] at h1; omega
       have HF := hide (fin_clone Own3.out Hb13.out own4 hb4')
       have HA4 := hide (HA3.out.below hb4' (by omega)).cells3.1
       have HB4 := hide (HB3.out.below hb4' (by omega))
       obtain ⟨⟨c40, c41, c42⟩, f40, f41, f42⟩ := HB4.out.cells3
       clear own4 hb4 hb4')
    | fail)
  all_goals
    have HBe := HB4.out.job (a' := .int .i64 i) (b' := .slice A4 n4 c4) (d' := .int .i64 ((dn : Int) + (k : Int)))
    obtain ⟨⟨e0, e1, e2⟩, _⟩ := HBe.cells3
    have HE2 := hide (jnext_end (p := w.heap.size + 1) (i := i) (z := (dn : Int) + (k : Int)) HF.out (by omega) (by omega) Hb1.out (by omega))
    clear HBe
    go_wp2_with fail
    exact bodyPost_ret (v := .tuple #[.slice A3 k c3, .agg #[.int .i64 i, .slice A4 n4 c4, .int .i64 ((dn : Int) + (k : Int))], .bool true]) (by simp [results, Try.results27, go_sem, e0, e1, e2]) rfl (by rw [H.out, HNe.out]; unfold jTo; rw [HE.out]; exact HE2.out)
end Go.Proofs.Ytimpmlmkhjeajaa
