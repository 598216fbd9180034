/- The heap of a box: slices.Clone, slices.Contains, newBoxHeap, takeGreatest; BoxPut. -/
import Derived.Test.YtfncmkmhdddmiaaHr
import Derived.Test.YtfncmkmhdddmiaaIb
set_option linter.unusedVariables false
set_option linter.unusedSimpArgs false
namespace Go.Proofs.Ytfncmkmhdddmiaa
open Go.RowKit Go.BigFrame

set_option maxHeartbeats 1000000 in
theorem cloneI (A : Option Addr) (n c : Nat) (F : List Int) (w : World) (hF : Ints w w.heap.size A n F) (hn2 : n ≤ 1000000) :
    Calls Try.prog 63 #[.slice A n c] w fun e w' => Own1I w F e w' := by
  obtain ⟨i1, hi1, hy0, hy1, hy2⟩ := info_parts' int_info
  have hU := Try.underlying23
  have q24 : ∀ (w : World) (a : Option Addr) (n c n' c' : Nat), (binOp .eql 23 (.slice a n c) (.slice none n' c')).run Try.prog w = .ok (.bool a.isNone) w := fun w a n c n' c' => Lib.run_eql_slice_nil w _ _ a n c n' c' hU
  have HF := hide hF
  have b1 : 0 + n ≤ maxLen := by unfold maxLen; omega
  have b2 : (0 + n) * 8 ≤ 140737488355328 := by omega
  rcases A with _ | ad
  · have h0 : n = 0 := by
      rcases Nat.eq_zero_or_pos n with h | h
      · exact h
      · obtain ⟨_, _, e, _⟩ := hF.2 h; cases e
    have hFe : Hid (F = []) := List.eq_nil_of_length_eq_zero (by have := hF.1; omega)
    clear hF h0 b1 b2
    go_enter Try.func63, Try.ntmps63
    go_wp2_with fail
    go_ret
    exact ⟨_, rfl, by rw [hFe.out]; exact OwnI.nil _ _, Below.refl _ _⟩
  · have own0 := hide (World.ownsRow_lit (size := 1) (e := 3) (base := w.heap.size) w #[] 0 (Nat.le_refl _) (Nat.zero_le _) rfl)
    have src := hide (hF.rd.alloc (Nat.le_refl _) (.cells #[] 3))
    clear hF
    go_enter Try.func63, Try.ntmps63
    go_wp2_with (
      (at_builtin
       refine wpList_append_rd _ rfl (.tmp 5) (.tmp 6) _ rfl w.heap.size 3 i1 _ 1 8 hU hi1 hy0 hy1 hy2 rfl (by omega) _ 0 [] rfl own0.out w.heap.size (some ad) n _ (F.map (Value.int .i64)) rfl src.out (one_ints _) b1 b2 (by simp) ?_
       intro v4 w4 own4 gr4 at4
       have hb4 : Below w.heap.size w w4 := Below.own ((Below.refl _ _).alloc (Nat.le_refl _) _) gr4 own0.out (Nat.le_refl _) (by simp)
       clear gr4 at4))
    go_ret
    exact ⟨v4, rfl, OwnI.mk' own4 (by rw [List.nil_append]), hb4⟩

/-- slices.Index: whether it is there. -/
def Idx (t : Bool) (w : World) (e : Ending) (w' : World) : Prop := w = w' ∧ ((t = true ∧ ∃ k : Nat, e = .returned (.int .i64 (k : Int))) ∨ (t = false ∧ e = .returned (.int .i64 (-1))))
set_option maxHeartbeats 1000000 in
theorem idxI (A : Option Addr) (n c : Nat) (L : List Int) (i : Int) (t : Bool) (w : World) (hL : Ints w w.heap.size A n L) (hn : n ≤ maxLen) (ht : decide (i ∈ L) = t) :
    Calls Try.prog 69 #[.slice A n c, .int .i64 i] w (Idx t w) := by
  unfold maxLen at hn
  have hl := hide hL.1
  have hL := hide hL
  have Ht := hide ht
  clear ht
  go_enter Try.func69, Try.ntmps69
  go_wp2_with fail
  go_loop [8] (fun i' => ∃ k : Nat, k ≤ n ∧ i' = .int .i64 k ∧ Hid (i ∉ L.take k)) (fun i' => n - (intOf i').toNat)
  case atStart => exact ⟨0, Nat.zero_le _, rfl, by show i ∉ _; simp⟩
  case round =>
    obtain ⟨k, hk, rfl, hu⟩ := hrel
    by_cases hlt : k < n
    · obtain ⟨a, ha⟩ : ∃ a, L[k]? = some a := ⟨L[k]'(by have := hl.out; omega), List.getElem?_eq_getElem _⟩
      obtain ⟨g, off, rfl, hg, hc0⟩ := hL.out.at' ha
      by_cases e : i = a
      · subst e
        have H : Hid (t = true) := by show t = true; rw [← Ht.out]; simpa using List.mem_of_getElem? ha
        clear ha
        go_wp2_with fail
        go_ret
        exact ⟨rfl, .inl ⟨H.out, _, rfl⟩⟩
      · have hne : (i == a) = false := by simpa using e
        have H : Hid (i ∉ L.take (k + 1)) := by
          show i ∉ _
          rw [List.take_add_one, ha]
          simp only [List.mem_append, not_or]
          exact ⟨hu.out, by simpa using e⟩
        clear ha e
        go_wp2_with fail
        go_round
        case rel => exact ⟨k + 1, by omega, by go_num, H⟩
        case measure => simp [intOf]; omega
    · have H : Hid (t = false) := by
        show t = false
        have h1 := hu.out
        rw [List.take_of_length_le (by have := hl.out; omega)] at h1
        rw [← Ht.out]; simpa using h1
      go_wp2_with fail
      go_ret
      exact ⟨rfl, .inr ⟨H.out, rfl⟩⟩
theorem hasI (A : Option Addr) (n c : Nat) (L : List Int) (i : Int) (t : Bool) (w : World) (hL : Ints w w.heap.size A n L) (hn : n ≤ maxLen) (ht : decide (i ∈ L) = t) :
    Calls Try.prog 49 #[.slice A n c, .int .i64 i] w fun e w' => e = .returned (.bool t) ∧ w = w' := by
  have HL := hide hL
  have HN := hide hn
  have Ht := hide ht
  clear hL hn ht
  go_enter Try.func49, Try.ntmps49
  go_wp2_with fail
  refine (idxI A n c L i t _ HL.out HN.out Ht.out).mono ?_
  rintro e w' ⟨rfl, ⟨rfl, k, rfl⟩ | ⟨rfl, rfl⟩⟩
  · go_wp2_with fail
    go_ret
    exact ⟨ret_bool (by simp), rfl⟩
  · go_wp2_with fail
    go_ret
    exact ⟨rfl, rfl⟩

/-- A new heap. -/
def NewH (base : Nat) (L : List Int) (w : World) (e : Ending) (w' : World) : Prop :=
  ∃ p A m c, e = .returned (.pointer (some ⟨p, 0, none⟩)) ∧ base ≤ p ∧ m ≤ 100 ∧ Blk w' p 81 #[.slice A m c] ∧ w'.ownsRow base 3 1 (.slice A m c) m (L.map (Value.int .i64)) ∧ (Value.slice A m c).ownBlock ≠ some p ∧ Below base w w'
set_option maxHeartbeats 1000000 in
theorem new_any (A : Option Addr) (n c : Nat) (L : List Int) (w : World) (hL : Ints w w.heap.size A n L) (hn : n ≤ 100) :
    Calls Try.prog 48 #[.slice A n c] w (NewH w.heap.size L w) := by
  have hl := hide hL.1
  have HL := hide hL
  clear hL
  go_enter Try.func48, Try.ntmps48
  go_wp2_with fail
  refine (cloneI A n c L w HL.out (by omega)).mono ?_
  rintro e w6 ⟨v, rfl, ⟨A6, n6, c6, rfl, own6⟩, hb6⟩
  have Own6 := hide own6
  have Hb6 := hide hb6
  have hs6 := hb6.size
  clear own6 hb6
  go_wp2_with fail
  go_ret
  have hlt : ∀ q, (Value.slice A6 n6 c6).ownBlock = some q → q < w6.heap.size := fun q hq => (Own6.out.lt q hq).2
  have hn6 : n6 = n := by have h1 := Own6.out.1; have h2 := hl.out; rw [List.length_map] at h1; omega
  exact ⟨w6.heap.size, A6, n6, c6, rfl, hs6, by omega, Blk.new _ _ _, Own6.out.alloc _, fun e => by have := hlt _ e; omega, Hb6.out.alloc hs6 _⟩
end Go.Proofs.Ytfncmkmhdddmiaa
