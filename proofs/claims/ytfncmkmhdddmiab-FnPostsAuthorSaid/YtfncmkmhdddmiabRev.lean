/- slices.Reverse of posts; (*postNode).posts. -/
import Derived.Test.YtfncmkmhdddmiabLink
import Derived.Test.YtfncmkmhdddmiabDrawP
import Derived.WalkKit
import Derived.Deep.LoopGhost
set_option linter.unusedVariables false
set_option linter.unusedSimpArgs false
namespace Go.Proofs.Ytfncmkmhdddmiab
open Go.RowKit

theorem swap_own {base g n c i j : Nat} {Z : List Pst} {a b : Pst} {w : World} (own : w.ownsRow base 31 2 (.slice (some ⟨g, 0, none⟩) n c) n (pcells Z)) (ha : Z[i]? = some a) (hb : Z[j]? = some b) (hij : i ≠ j) :
    ((((w.setCell ⟨g, i * 2, none⟩ (.int .i64 b.1)).setCell ⟨g, i * 2 + 1, none⟩ (.string b.2)).setCell ⟨g, j * 2, none⟩ (.int .i64 a.1)).setCell ⟨g, j * 2 + 1, none⟩ (.string a.2)).ownsRow base 31 2 (.slice (some ⟨g, 0, none⟩) n c) n (pcells ((Z.set i b).set j a)) ∧
    w.grownBy ((((w.setCell ⟨g, i * 2, none⟩ (.int .i64 b.1)).setCell ⟨g, i * 2 + 1, none⟩ (.string b.2)).setCell ⟨g, j * 2, none⟩ (.int .i64 a.1)).setCell ⟨g, j * 2 + 1, none⟩ (.string a.2)) (some g) := by
  have hi : i < Z.length := (List.getElem?_eq_some_iff.1 ha).1
  have hj : j < Z.length := (List.getElem?_eq_some_iff.1 hb).1
  have s1 := own.stored (i * 2) (.int .i64 b.1)
  rw [pcells_set0 b.1 ha] at s1
  have h2 : (Z.set i (b.1, a.2))[i]? = some (b.1, a.2) := List.getElem?_set_self hi
  have s2 := s1.1.stored (i * 2 + 1) (.string b.2)
  rw [pcells_set1 b.2 h2, List.set_set] at s2
  have h3 : (Z.set i (b.1, b.2))[j]? = some b := by rw [List.getElem?_set_ne hij]; exact hb
  have s3 := s2.1.stored (j * 2) (.int .i64 a.1)
  rw [pcells_set0 a.1 h3] at s3
  have h4 : ((Z.set i (b.1, b.2)).set j (a.1, b.2))[j]? = some (a.1, b.2) := List.getElem?_set_self (by simpa using hj)
  have s4 := s3.1.stored (j * 2 + 1) (.string a.2)
  rw [pcells_set1 a.2 h4, List.set_set] at s4
  exact ⟨s4.1, ((s1.2.trans s2.2).trans s3.2).trans s4.2⟩

/-- Behind k exchanges. -/
def Rv (X Z : List Pst) (k : Nat) : Prop := Z.length = X.length ∧ ∀ p, p < X.length → Z[p]? = if p < k ∨ X.length - 1 - k < p then X[X.length - 1 - p]? else X[p]?
theorem Rv.zero (X : List Pst) : Rv X X 0 := ⟨rfl, fun p hp => by
  split
  · rename_i h; omega
  · rfl⟩
theorem Rv.step {X Z : List Pst} {k : Nat} {a b : Pst} (h : Rv X Z k) (hk : k < X.length - 1 - k) (ha : Z[k]? = some a) (hb : Z[X.length - 1 - k]? = some b) : Rv X ((Z.set k b).set (X.length - 1 - k) a) (k + 1) := by
  refine ⟨by simp [h.1], fun p hp => ?_⟩
  have ha' := h.2 k (by omega)
  have hb' := h.2 (X.length - 1 - k) (by omega)
  rw [if_neg (by omega), ha] at ha'
  rw [if_neg (by omega), hb] at hb'
  by_cases e1 : p = X.length - 1 - k
  · subst e1
    rw [List.getElem?_set_self (by rw [List.length_set, h.1]; omega), if_pos (by omega), ha', show X.length - 1 - (X.length - 1 - k) = k by omega]
  · rw [List.getElem?_set_ne (by omega)]
    by_cases e2 : p = k
    · subst e2
      rw [List.getElem?_set_self (by rw [h.1]; omega), if_pos (by omega), hb']
    · rw [List.getElem?_set_ne (by omega), h.2 p hp]
      by_cases e3 : p < k ∨ X.length - 1 - k < p
      · rw [if_pos e3, if_pos (by omega)]
      · rw [if_neg e3, if_neg (by omega)]
theorem Rv.end_ {X Z : List Pst} {k : Nat} (h : Rv X Z k) (hk : X.length - 1 - k ≤ k) : Z = X.reverse := by
  apply List.ext_getElem?; intro p
  rcases Nat.lt_or_ge p X.length with hp | hp
  · rw [h.2 p hp, List.getElem?_reverse hp]
    split
    · rfl
    · rw [show X.length - 1 - p = p by omega]
  · rw [List.getElem?_eq_none (by rw [h.1]; omega), List.getElem?_eq_none (by simpa using hp)]

set_option maxHeartbeats 2000000 in
theorem rev_any (base g n c : Nat) (X : List Pst) (w : World) (own : w.ownsRow base 31 2 (.slice (some ⟨g, 0, none⟩) n c) n (pcells X)) (hn : n ≤ 1000) :
    Calls Try.prog 56 #[.slice (some ⟨g, 0, none⟩) n c] w fun e w' => e = .returned (.tuple #[]) ∧ w'.ownsRow base 31 2 (.slice (some ⟨g, 0, none⟩) n c) n (pcells X.reverse) ∧ w.grownBy w' (some g) := by
  have hl : X.length = n := (Psts.of_own own).1
  have Hl := hide hl
  clear hl
  go_enter Try.func56, Try.ntmps56
  go_wp2_with fail
  go_loopg [2, 3] n (fun r i j wr => ∃ (k : Nat) (Z : List Pst), k ≤ n ∧ n - k ≤ r ∧ i = .int .i64 k ∧ j = .int .i64 ((n : Int) - 1 - k) ∧ Hid (Rv X Z k) ∧ wr.ownsRow base 31 2 (.slice (some ⟨g, 0, none⟩) n c) n (pcells Z) ∧ Hid (w.grownBy wr (some g)))
  case atStart => exact ⟨0, X, Nat.zero_le _, by omega, rfl, by simp, Rv.zero X, own, World.grownBy.refl _ _⟩
  case round =>
    obtain ⟨k, Z, hk, hr, rfl, rfl, hz, hown, hgr⟩ := hrel
    by_cases hlt : k < n - 1 - k
    · obtain ⟨j, hj⟩ : ∃ j, j = n - 1 - k := ⟨_, rfl⟩
      have hji : (n : Int) - 1 - (k : Int) = (j : Int) := by omega
      rw [hji]
      have hzl : Z.length = n := (Psts.of_own hown).1
      obtain ⟨a, ha⟩ : ∃ a, Z[k]? = some a := ⟨Z[k]'(by omega), List.getElem?_eq_getElem _⟩
      obtain ⟨b, hb⟩ : ∃ b, Z[j]? = some b := ⟨Z[j]'(by omega), List.getElem?_eq_getElem _⟩
      have hlen : (pcells Z).length = n * 2 := by rw [pcells_len, hzl]
      have ca0 : wr.cell? ⟨g, k * 2, none⟩ = some (.int .i64 a.1) := (hown.cellAt (k * 2) (by omega)).trans (pcells_at ha).1
      have ca1 : wr.cell? ⟨g, k * 2 + 1, none⟩ = some (.string a.2) := (hown.cellAt (k * 2 + 1) (by omega)).trans (pcells_at ha).2
      have cb0 : wr.cell? ⟨g, j * 2, none⟩ = some (.int .i64 b.1) := (hown.cellAt (j * 2) (by omega)).trans (pcells_at hb).1
      have cb1 : wr.cell? ⟨g, j * 2 + 1, none⟩ = some (.string b.2) := (hown.cellAt (j * 2 + 1) (by omega)).trans (pcells_at hb).2
      have fa0 := hown.frozenAt (k * 2)
      have fa1 := hown.frozenAt (k * 2 + 1)
      have fb0 := hown.frozenAt (j * 2)
      have fb1 := hown.frozenAt (j * 2 + 1)
      have H : Hid (Rv X ((Z.set k b).set j a) (k + 1)) := by
        have h1 := Hl.out
        have e : j = X.length - 1 - k := by omega
        rw [e] at hb ⊢
        exact hz.out.step (by omega) ha hb
      have Hsw := hide (swap_own hown ha hb (by omega))
      have hkj : (k : Int) < (j : Int) := by omega
      have hjn : j < n := by omega
      have Hj := hide hj
      have Hlt := hide hlt
      have Hji := hide hji
      clear ha hb hlen hzl hj hlt hji
      go_wp2_with fail
      go_region
      all_goals
        go_wp2_with fail
        go_roundg (n - (k + 1))
        case measure => have := Hlt.out; omega
        case rel => exact ⟨k + 1, _, by have := Hlt.out; omega, by have := Hlt.out; omega, by go_num, by have := Hji.out; go_num, H, Hsw.out.1, hgr.out.trans (Hsw.out.2.trans ⟨rfl, rfl, rfl, Nat.le_refl _, fun _ _ _ => rfl⟩)⟩
    · have hlt2 : ¬ ((k : Int) < (n : Int) - 1 - (k : Int)) := by omega
      have HZ : Hid (Z = X.reverse) := by have h1 := Hl.out; exact hz.out.end_ (by omega)
      go_wp2_with fail
      go_end0
      exact ⟨rfl, by rw [← HZ.out]; exact hown, hgr.out⟩

theorem chain_take {R : List Pst} {k : Nat} {a : Pst} (h : R[k]? = some a) : R.drop k = a :: R.drop (k + 1) := by
  obtain ⟨hk, e⟩ := List.getElem?_eq_some_iff.1 h
  rw [List.drop_eq_getElem_cons hk, e]

set_option maxHeartbeats 2000000 in
theorem i_posts (v : Value) (R : List Pst) (w : World) (hc : Chain w (· < w.heap.size) v R) (hn : R.length ≤ 100) (h0 : 0 < R.length) :
    Calls Try.prog 45 #[v] w fun e w' => ∃ u, e = .returned u ∧ OwnP w.heap.size w' u R.reverse ∧ Below w.heap.size w w' := by
  obtain ⟨i1, hi1, hy0, hy1, hy2⟩ := info_parts' post_info
  have hU := Try.underlying23
  have Hc := hide hc
  clear hc
  go_enter Try.func45, Try.ntmps45
  go_wp2_with fail
  go_loopg [3, 4] R.length (fun r u v wr => ∃ (k : Nat) (A : Option Addr) (c : Nat), k + r = R.length ∧ u = .slice A k c ∧ wr.ownsRow w.heap.size 31 2 (.slice A k c) k (pcells (R.take k)) ∧ Hid (Chain w (· < w.heap.size) v (R.drop k)) ∧ Hid (Below w.heap.size w wr))
  case atStart => exact ⟨0, none, 0, by omega, rfl, World.ownsRow_nil _ _ _ _, Hc.out, Below.refl _ _⟩
  case round =>
    obtain ⟨k, A, c, hkr, rfl, hown, hch, hbr⟩ := hrel
    have Hown := hide hown
    clear hown
    by_cases hlt : R.length ≤ k
    · have hv : u4 = .pointer none := by have h := hch.out; rw [List.drop_of_length_le (by omega)] at h; exact h
      subst hv
      obtain rfl : k = R.length := by omega
      obtain ⟨g, cap, hA, hg, hlt⟩ := Hown.out.form h0
      injection hA with hA _ hC
      subst hA hC
      have Hw := hide (Hown.out)
      rw [List.take_length] at Hw
      go_wp2_with fail
      refine (rev_any w.heap.size g R.length c R _ Hw.out (by omega)).mono ?_
      rintro e w3 ⟨rfl, own3, gr3⟩
      have Hb3 : Hid (Below w.heap.size w w3) := hbr.out.grown gr3 hbr.out.size (fun q hq => by injection hq; omega)
      clear gr3
      go_wp2_with fail
      go_ret
      exact ⟨_, rfl, ⟨_, _, _, rfl, own3⟩, Hb3.out⟩
    · obtain ⟨a, ha⟩ : ∃ a, R[k]? = some a := ⟨R[k]'(by omega), List.getElem?_eq_getElem _⟩
      have h := hch.out
      rw [chain_take ha] at h
      obtain ⟨g, q, hv, hg, hq0, hq1, hq2, hq3⟩ := h
      subst hv
      have hc0 : wr.cell? ⟨g, 0, none⟩ = some (.int .i64 a.1) := (hbr.out.cell (p := ⟨g, 0, none⟩) hg).trans hq0
      have hc1 : wr.cell? ⟨g, 1, none⟩ = some (.string a.2) := (hbr.out.cell (p := ⟨g, 1, none⟩) hg).trans hq1
      have hc2 : wr.cell? ⟨g, 2, none⟩ = some q := (hbr.out.cell (p := ⟨g, 2, none⟩) hg).trans hq2
      have Hq := hide hq3
      have hE : Hid (pcells (R.take k) ++ [Value.int .i64 a.1, Value.string a.2] = pcells (R.take (k + 1))) := by
        rw [List.take_add_one, ha, pcells_app]; rfl
      have hbs := hbr.out.size
      have b1 : k + 1 ≤ maxLen := by unfold maxLen; omega
      have b2 : (k + 1) * 24 ≤ 140737488355328 := by omega
      have hgl : g < wr.heap.size := by omega
      clear hq0 hq1 hq2 hq3 ha
      go_wp2_with (
        (at_builtin
         refine wpList_append_rd _ rfl (.tmp 12) (.tmp 17) _ rfl w.heap.size 31 i1 _ 2 24 hU hi1 hy0 hy1 hy2 rfl (by omega) (.slice A k c) k (pcells (R.take k)) rfl (Hown.out.alloc _) (wr.heap.size + 1) (some ⟨wr.heap.size, 0, none⟩) 1 _ [Value.int .i64 a.1, Value.string a.2] rfl (rd_two _ _ _ _) (by intro u hu; simp at hu; rcases hu with rfl | rfl <;> rfl) b1 b2 (by simp; omega) ?_
         intro v7 w7 own7 gr7 at7
         have hb7 : Below w.heap.size w w7 := Below.own (hbr.out.alloc hbs _) gr7 (Hown.out.alloc _) (Nat.le_refl _) (by simp; omega)
         have Hb7 := hide hb7
         have hd0 : w7.cell? ⟨g, 2, none⟩ = some q := (World.cell?_of_block (a := ⟨g, 2, none⟩) (gr7.block g (by simp; omega) (fun e => by have := (Hown.out.lt g e.symm).1; omega))).trans ((World.cell?_alloc_old _ _ _ (by simp; omega)).trans hc2)
         rw [hE.out] at own7
         obtain ⟨A7, c7, e7⟩ := own_slice own7
         subst e7
         have Hown7 := hide own7
         clear gr7 at7 hb7 own7))
      go_roundg (R.length - (k + 1))
      case measure => omega
      case rel => exact ⟨k + 1, A7, c7, by omega, rfl, Hown7.out, Hq.out, Hb7.out⟩
end Go.Proofs.Ytfncmkmhdddmiab
