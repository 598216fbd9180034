/- impl.NamesPut, impl.NamesDrop. -/
import Derived.Test.YtohodhogbdcdmabWith
import Derived.Test.YtohodhogbdcdmabNs2
namespace Go.Proofs.Ytohodhogbdcdmab
open Go.RowKit

theorem OwnL.nil (base : Nat) (w' : World) : OwnL base w' (.slice none 0 0) [] := ⟨_, _, _, rfl, World.ownsRow_nil _ _ _ _⟩
theorem nvB_small {s : ByteArray} (h : nvB s = true) : s.size ≤ maxLen := by have := nvB_size h; unfold maxLen; omega
theorem nsB_small {L : List ByteArray} (h : nsB L = true) : Small L := fun _ hs => nvB_small (nsB_nv h hs)
theorem put_small {L : List ByteArray} {s : ByteArray} (hL : Small L) (hs : s.size ≤ maxLen) : Small (put L s) := fun t ht => by
  rcases put_mem.1 ht with rfl | h
  · exact hs
  · exact hL t h
theorem Strs.lt {w : World} {B n : Nat} {A : Option Addr} {L : List ByteArray} (h : Strs w B A n L) : L.length = n := h.1

set_option maxHeartbeats 1000000 in
theorem i_NamesPut (A : Option Addr) (n c : Nat) (L : List ByteArray) (s : ByteArray) (w : World) (hL : Strs w w.heap.size A n L) (hS : Small L) (hnc : n ≤ c) (hn : n ≤ maxLen) (hs : s.size ≤ maxLen) :
    Calls Try.prog 42 #[.slice A n c, .string s] w fun e w' => Own2 w (putM L s) e w' := by
  have hL := hide hL
  have hS := hide hS
  have hn := hide hn
  go_enter Try.func42, Try.ntmps42
  go_wp2_with fail
  refine (i_NamesValid A n c L _ hL.out hS.out hn.out).mono ?_
  rintro e w' ⟨rfl, rfl⟩
  cases h1 : nsB L
  · have H := hide (putM_1 (s := s) h1)
    go_wp2_with fail
    go_ret2
    exact ⟨_, by rw [H.out]; rfl, by rw [H.out]; exact OwnL.nil _ _, Below.refl _ _⟩
  have hlen := nsB_le h1
  have hn10 : n ≤ 10 := by have := hL.out.1; omega
  go_wp2_with fail
  refine (i_NameValid s _ hs).mono ?_
  rintro e w' ⟨rfl, rfl⟩
  cases h2 : nvB s
  · have H := hide (putM_2 (L := L) h2)
    go_wp2_with fail
    go_ret2
    exact ⟨_, by rw [H.out]; rfl, by rw [H.out]; exact OwnL.nil _ _, Below.refl _ _⟩
  have h1 := hide h1
  have h2 := hide h2
  go_wp2_with fail
  refine (with_any A n c L s _ hL.out (nsB_asc h1.out) hnc hn.out (by omega)).mono ?_
  rintro e w1 ⟨v, rfl, ⟨A1, n1, c1, rfl, own1⟩, hb1⟩
  have hst := hide (Strs.of_own own1)
  have hn1 : n1 ≤ 11 := by have := hst.out.1; have := put_len L s; omega
  go_wp2_with fail
  refine (nl_valid A1 n1 c1 (put L s) _ hst.out (put_small hS.out hs) (by unfold maxLen; omega)).mono ?_
  rintro e w' ⟨rfl, rfl⟩
  cases h3 : nsB (put L s)
  · have H := hide (putM_3 h3)
    go_wp2_with fail
    go_ret2
    exact ⟨_, by rw [H.out]; rfl, by rw [H.out]; exact OwnL.nil _ _, hb1⟩
  · have H := hide (putM_t h1.out h2.out h3)
    go_wp2_with fail
    go_ret2
    exact ⟨_, by rw [H.out]; rfl, by rw [H.out]; exact ⟨_, _, _, rfl, own1⟩, hb1⟩

set_option maxHeartbeats 1000000 in
theorem i_NamesDrop (A : Option Addr) (n c : Nat) (L : List ByteArray) (s : ByteArray) (w : World) (hL : Strs w w.heap.size A n L) (hS : Small L) (hnc : n ≤ c) (hn : n ≤ maxLen) :
    Calls Try.prog 23 #[.slice A n c, .string s] w fun e w' => Own2 w (dropM L s) e w' := by
  have hL := hide hL
  have hS := hide hS
  have hn := hide hn
  go_enter Try.func23, Try.ntmps23
  go_wp2_with fail
  refine (i_NamesValid A n c L _ hL.out hS.out hn.out).mono ?_
  rintro e w' ⟨rfl, rfl⟩
  cases h1 : nsB L
  · have H := hide (dropM_1 (s := s) h1)
    go_wp2_with fail
    go_ret2
    exact ⟨_, by rw [H.out]; rfl, by rw [H.out]; exact OwnL.nil _ _, Below.refl _ _⟩
  have hlen := nsB_le h1
  have hn10 : n ≤ 10 := by have := hL.out.1; omega
  have h1 := hide h1
  go_wp2_with fail
  refine (place_any A n c L s _ hL.out (nsB_asc h1.out) hn.out (by omega)).mono ?_
  rintro e w' ⟨rfl, rfl⟩
  cases h2 : memB L s
  · have H := hide (dropM_2 h2)
    go_wp2_with fail
    go_ret2
    exact ⟨_, by rw [H.out]; rfl, by rw [H.out]; exact OwnL.nil _ _, Below.refl _ _⟩
  · have H := hide (dropM_t h1.out h2)
    have hlt : pos L s < n := by
      have h := (mem_pos (nsB_asc h1.out)).1 (memB_iff.1 h2)
      have := (List.getElem?_eq_some_iff.1 h).1
      have := hL.out.1
      omega
    have h2 := hide h2
    go_wp2_with fail
    refine (without_any A n c (pos L s) L _ hL.out hlt hnc hn.out (by omega)).mono ?_
    rintro e w1 ⟨v, rfl, ⟨A1, n1, c1, rfl, own1⟩, hb1⟩
    go_wp2_with fail
    go_ret2
    exact ⟨_, by rw [H.out]; rfl, by rw [H.out]; exact ⟨_, _, _, rfl, own1⟩, hb1⟩
end Go.Proofs.Ytohodhogbdcdmab
