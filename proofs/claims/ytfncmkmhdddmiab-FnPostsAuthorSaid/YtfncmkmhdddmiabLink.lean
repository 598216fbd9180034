/- impl: the linked list of posts: linkPosts, nextId, posts. -/
import Derived.Test.YtfncmkmhdddmiabPv
import Derived.Deep.DeepMust
set_option linter.unusedVariables false
set_option linter.unusedSimpArgs false
namespace Go.Proofs.Ytfncmkmhdddmiab
open Go.RowKit

/-- Blocks from b0 on that are there. -/
abbrev Mine (b0 : Nat) (w : World) : Nat → Prop := fun g => b0 ≤ g ∧ g < w.heap.size
theorem Chain.cons {w : World} {ok : Nat → Prop} {q : Value} {R : List Pst} {a : Pst} (T : TypeId) (h : Chain w ok q R) (hok : ∀ g, ok g → g < w.heap.size) {ok' : Nat → Prop} (ho : ∀ g, ok g → ok' g) (hn : ok' w.heap.size) :
    Chain (w.alloc (.cells #[.int .i64 a.1, .string a.2, q] T)) ok' (.pointer (some ⟨w.heap.size, 0, none⟩)) (a :: R) := by
  have hb := Blk.new w T #[.int .i64 a.1, .string a.2, q]
  refine ⟨_, q, rfl, hn, hb.cell 0, hb.cell 1, hb.cell 2, (h.keep fun p hp => ?_).more ho⟩
  exact ((Below.refl w.heap.size w).alloc (Nat.le_refl _) _).cell (hok _ hp)

theorem Chain.ptr {w : World} {ok : Nat → Prop} {v : Value} : ∀ {R : List Pst}, Chain w ok v R → ∃ o, v = .pointer o
  | [], h => ⟨_, h⟩
  | _ :: _, ⟨_, _, e, _⟩ => ⟨_, e⟩
set_option maxHeartbeats 2000000 in
theorem i_link (A : Option Addr) (n c : Nat) (X : List Pst) (w : World) (hX : Psts w w.heap.size A n X) (hS : PSmall X) (hn : n ≤ maxLen) (b : Bool) (hv : psB X = b) :
    Calls Try.prog 42 #[.slice A n c] w fun e w' => ∃ v, e = .returned (.tuple #[v, .bool b]) ∧ Below w.heap.size w w' ∧ (b = true → Chain w' (Mine w.heap.size w') v X.reverse) := by
  have HV := hide hv
  clear hv
  have hnm := hide hn
  unfold maxLen at hn
  have hl := hide hX.1
  have HX := hide hX
  have HS := hide hS
  clear hX hS
  go_enter Try.func42, Try.ntmps42
  go_wp2_with fail
  refine (i_Ps A n c X _ HX.out HS.out hnm.out).mono ?_
  rintro e w1 ⟨rfl, hb1⟩
  rw [HV.out]
  have Hb1 := hide hb1
  clear hb1
  cases b
  · go_wp2_with fail
    go_ret2
    exact ⟨_, rfl, Hb1.out, fun h => by cases h⟩
  go_wp2_with fail
  go_loopw [4, 6, 12] (fun v _ i wr => ∃ k : Nat, k ≤ n ∧ i = .int .i64 k ∧ Hid (Below w.heap.size w wr) ∧ Hid (Chain wr (Mine w.heap.size wr) v (X.take k).reverse)) (fun _ _ i _ => n - (intOf i).toNat)
  case atStart => exact ⟨0, Nat.zero_le _, rfl, Hb1.out, by simp [Hid, Chain]⟩
  case round =>
    obtain ⟨k, hk, rfl, hbr, hch⟩ := hrel
    by_cases hlt : k < n
    · obtain ⟨a, ha⟩ : ∃ a, X[k]? = some a := ⟨X[k]'(by have := hl.out; omega), List.getElem?_eq_getElem _⟩
      obtain ⟨g, off, rfl, hg, hc0, hc1⟩ := (HX.out.below hbr.out).at' ha
      have e1 : (X.take (k + 1)).reverse = a :: (X.take k).reverse := by rw [List.take_add_one, ha]; simp
      have E1 := hide e1
      have hsz := hbr.out.size
      obtain ⟨o, rfl⟩ := hch.out.ptr
      clear ha e1
      go_wp2_with fail
      go_roundw
      case rel =>
        refine ⟨k + 1, by omega, by go_num, (hbr.out.alloc hsz _).alloc (by simp; omega) _, ?_⟩
        show Chain _ _ _ _
        rw [E1.out]
        have h1 := ((hch.out.keep fun p hp => ((Below.refl wr.heap.size wr).alloc (Nat.le_refl _) (.cells #[Value.int .i64 a.1, Value.string a.2] 31)).cell hp.2).more (ok' := Mine w.heap.size (wr.alloc (.cells #[Value.int .i64 a.1, Value.string a.2] 31))) fun g (hg : Mine w.heap.size wr g) => ⟨hg.1, by have := hg.2; simp; omega⟩)
        have h2 := h1.cons (a := a) 60 (fun g hg => hg.2) (ok' := Mine w.heap.size ((wr.alloc (.cells #[Value.int .i64 a.1, Value.string a.2] 31)).alloc (.cells #[Value.int .i64 a.1, Value.string a.2, .pointer o] 60))) (fun g (hg : Mine _ _ g) => ⟨hg.1, by have := hg.2; simp at this ⊢; omega⟩) ⟨by simp; omega, by simp⟩
        simpa using h2
      case measure => simp [intOf]; omega
    · have e1 : X.take n = X := List.take_of_length_le (by have := hl.out; omega)
      have E1 := hide e1
      clear e1
      go_wp2_with fail
      go_ret2
      refine ⟨_, rfl, hbr.out, ?_⟩
      have h := hch.out
      rw [show k = n by omega, E1.out] at h
      exact h

theorem nextI_rev {X R : List Pst} {a : Pst} (h : X.reverse = a :: R) : nextI X = a.1 + 1 := by
  have : X.getLast? = some a := by rw [← List.head?_reverse, h]; rfl
  unfold nextI; rw [this]
theorem rev_nil {X : List Pst} (h : X.reverse = []) : X = [] := by simpa using h

set_option maxHeartbeats 1000000 in
theorem i_next (v : Value) (X : List Pst) (ok : Nat → Prop) (w : World) (hc : Chain w ok v X.reverse) (hv : psB X = true) :
    Calls Try.prog 44 #[v] w fun e w' => e = .returned (.int .i64 (nextI X)) ∧ w = w' := by
  cases hr : X.reverse with
  | nil =>
    rw [hr] at hc
    have hc : v = .pointer none := hc
    subst hc
    have H : Hid (nextI X = 1) := by rw [rev_nil hr]; exact nextI_nil
    clear hr hv
    go_enter Try.func44, Try.ntmps44
    go_wp2_with fail
    go_ret
    exact ⟨ret_int H.out.symm, rfl⟩
  | cons a R =>
    rw [hr] at hc
    obtain ⟨g, q, rfl, _, h0, h1, h2, _⟩ := hc
    have hm : a ∈ X := by rw [← List.mem_reverse, hr]; exact List.mem_cons_self
    have hb := psB_pst hv hm
    have hb1 := hb.1
    have hb2 := hb.2.1
    have H : Hid (nextI X = a.1 + 1) := nextI_rev hr
    clear hr hv hm hb h1 h2
    go_enter Try.func44, Try.ntmps44
    go_wp2_with fail
    go_ret
    exact ⟨ret_int H.out.symm, rfl⟩
end Go.Proofs.Ytfncmkmhdddmiab
