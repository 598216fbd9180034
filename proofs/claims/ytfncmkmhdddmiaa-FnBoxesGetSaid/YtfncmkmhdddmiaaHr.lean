/- container/heap over the heap of a box: heap.Push, heap.Pop. -/
import Derived.Test.YtfncmkmhdddmiaaHq
set_option linter.unusedVariables false
set_option linter.unusedSimpArgs false
namespace Go.Proofs.Ytfncmkmhdddmiaa
open Go.RowKit Go.BigFrame

/-- A heap of the numbers S: its variable is block p. -/
def HeapOf (base p : Nat) (T : TypeId) (S : List Int) (w w' : World) : Prop :=
  ∃ g m c M, p ≠ g ∧ M.Perm S ∧ M.length = m ∧ Hp M ∧ Blk w' p T #[.slice (some ⟨g, 0, none⟩) m c] ∧ Row w' base g m c M ∧ Below base w w'
def PushedH (base p : Nat) (T : TypeId) (S : List Int) (w : World) (e : Ending) (w' : World) : Prop := e = .returned (.tuple #[]) ∧ HeapOf base p T S w w'

theorem grown_below {base g : Nat} {a b : World} (h : a.grownBy b (some g)) (hg : base ≤ g) (hs : base ≤ a.heap.size) : Below base a b := ⟨h.os, h.tape, h.output, h.size, fun k hk => h.block k (by omega) (fun e => by injection e with e; omega)⟩

set_option maxHeartbeats 1000000 in
set_option maxRecDepth 100000 in
theorem heap_push (base p m c : Nat) (A : Option Addr) (x : Int) (T : TypeId) (L : List Int) (w : World) (hp : Blk w p T #[.slice A m c]) (h : w.ownsRow base 3 1 (.slice A m c) m (L.map (Value.int .i64))) (hbp : base ≤ p) (hpo : (Value.slice A m c).ownBlock ≠ some p) (hm : m ≤ 100) (hh : Hp L) :
    Calls Try.prog 50 #[.iface 60 (.pointer (some ⟨p, 0, none⟩)), .iface 3 (.int .i64 x)] w (PushedH base p T (L ++ [x]) w) := by
  have hl : L.length = m := by have := h.1; rw [List.length_map] at this; omega
  have Hp0 := hide hp
  have H := hide h
  have Hpo := hide hpo
  have HH := hide hh
  have Hl := hide hl
  have hbs : base ≤ w.heap.size := by have := hp.lt; omega
  clear hp h hpo hh hl
  go_enter Try.func50, Try.ntmps50
  go_wp2_with fail
  refine (push_m base p m c A x T L w Hp0.out H.out hbp Hpo.out (by omega)).mono ?_
  rintro e w6 ⟨rfl, g6, m6, c6, hpg, hlen6, hB6, hR6, hb6⟩
  obtain rfl : m6 = m + 1 := by rw [← hlen6, List.length_append, Hl.out]; rfl
  have HB6 := hide hB6
  have HR6 := hide hR6
  have Hb6 := hide hb6
  have hml := m_len 216 p _ w6 hB6.cell0
  clear hlen6 hB6 hR6 hb6
  go_wp2_with fail
  refine (h_len _ (m + 1) c6 w6 (by unfold maxLen; omega)).mono ?_
  rintro e w' ⟨rfl, rfl⟩
  go_wp2_with fail
  refine (up_any base p g6 (m + 1) c6 m _ T (L ++ [x]) w6 (by first | rfl | omega) HB6.out hpg HR6.out (by omega) (by have h1 := UpI.start HH.out x; rw [Hl.out] at h1; exact h1) (by omega)).mono ?_
  rintro e w7 ⟨rfl, M, hH, hP, hR7, hg7⟩
  have HH7 := hide hH
  have HP7 := hide hP
  have HR7 := hide hR7
  have Hg7 := hide hg7
  clear hH hP hR7 hg7
  go_wp2_with fail
  go_end0
  exact ⟨rfl, g6, m + 1, c6, M, hpg, HP7.out, HR7.out.len, HH7.out, HB6.out.grown Hg7.out (by simp [hpg]), HR7.out, Hb6.out.trans (grown_below Hg7.out (HR6.out.lt g6 rfl).1 (Nat.le_trans hbs Hb6.out.size))⟩

set_option maxHeartbeats 1000000 in
set_option maxRecDepth 100000 in
theorem pop_m (base p g n c : Nat) (x : Int) (T : TypeId) (M : List Int) (w : World) (hp : Blk w p T #[.slice (some ⟨g, 0, none⟩) (n + 1) c]) (h : Row w base g (n + 1) c M) (hx : M[n]? = some x) (hm : n ≤ 1000) :
    Calls Try.prog 103 #[.pointer (some ⟨p, 0, none⟩)] w fun e w' => e = .returned (.iface 3 (.int .i64 x)) ∧ w' = w.setCell ⟨p, 0, none⟩ (.slice (some ⟨g, 0, none⟩) n c) := by
  obtain ⟨i1, hi1, hy0, hy1, hy2⟩ := info_parts' int_info
  have hU := Try.underlying81
  have cp := hp.cell0
  have fp := hp.frozen 0
  have cx := h.cell hx
  have hnc := (own_cap h).1
  have hsl : ∀ W : World, (Instr.slice 81 (.slice (some ⟨g, 0, none⟩) (n + 1) c) none (some (.int .i64 (n : Int))) none).run Try.prog W = .ok (.slice (some ⟨g, 0, none⟩) n c) W := fun W => slice_to_run hU hi1 (some ⟨g, 0, none⟩) (n + 1) c n (n : Int) rfl (by omega) hnc W
  clear hp h hx hU hi1 hy0 hy1 hy2
  go_enter Try.func103, Try.ntmps103
  go_wp2_with fail
  go_ret
  exact ⟨rfl, rfl⟩

/-- Only the blocks p and g have turned. -/
structure Two (p g : Nat) (w w' : World) : Prop where
  os : w'.os = w.os
  tape : w'.tape = w.tape
  output : w'.output = w.output
  size : w.heap.size ≤ w'.heap.size
  block : ∀ k, k < w.heap.size → k ≠ p → k ≠ g → w'.heap[k]? = w.heap[k]?
theorem Two.below {p g base : Nat} {w w' : World} (h : Two p g w w') (hp : base ≤ p) (hg : base ≤ g) (hs : base ≤ w.heap.size) : Below base w w' := ⟨h.os, h.tape, h.output, h.size, fun k hk => h.block k (by omega) (by omega) (by omega)⟩
theorem Two.own {p g base n : Nat} {w w' : World} {e : TypeId} {size : Nat} {v : Value} {xs : List Value} (h : Two p g w w') (ho : w.ownsRow base e size v n xs) (hp : v.ownBlock ≠ some p) (hg : v.ownBlock ≠ some g) : w'.ownsRow base e size v n xs := by
  refine ⟨ho.1, ?_⟩
  rcases ho.2 with h1 | ⟨q, cap, cur, e1, e2, e3, e4⟩
  · exact .inl h1
  · have hlt := (ho.lt q (by rw [e1]; rfl)).2
    refine .inr ⟨q, cap, cur, e1, e2, (h.block q hlt (fun e => hp (by rw [e1, e]; rfl)) (fun e => hg (by rw [e1, e]; rfl))).trans e3, e4⟩
/-- Behind a pop. -/
def Popped (base p g n c : Nat) (T : TypeId) (L : List Int) (w : World) (e : Ending) (w' : World) : Prop :=
  ∃ x M, e = .returned (.iface 3 (.int .i64 x)) ∧ Took L M x ∧ Blk w' p T #[.slice (some ⟨g, 0, none⟩) n c] ∧ Row w' base g n c M ∧ Two p g w w'

theorem popped_of {base p g n c : Nat} {x : Int} {T : TypeId} {L M : List Int} {w w7 : World} (hp : Blk w7 p T #[.slice (some ⟨g, 0, none⟩) (n + 1) c]) (hpg : p ≠ g) (hT : Took L (M.take n) x) (hR : Row w7 base g (n + 1) c M) (hg : w.grownBy w7 (some g)) :
    Popped base p g n c T L w (.returned (.iface 3 (.int .i64 x))) (w7.setCell ⟨p, 0, none⟩ (.slice (some ⟨g, 0, none⟩) n c)) := by
  have gr : w7.grownBy (w7.setCell ⟨p, 0, none⟩ (.slice (some ⟨g, 0, none⟩) n c)) (some p) := ⟨rfl, rfl, rfl, by simp, fun k _ hk => heap_setCell_other w7 ⟨p, 0, none⟩ k _ (fun e => hk (by simp [e]))⟩
  refine ⟨x, M.take n, rfl, hT, hp.set_ 0 _, (ints_take hR (by omega)).kept gr (.inr (by simp [Value.ownBlock]; exact fun e => hpg e.symm)), ?_⟩
  have hs := hg.size
  exact ⟨gr.os.trans hg.os, gr.tape.trans hg.tape, gr.output.trans hg.output, Nat.le_trans hg.size gr.size, fun k hk h1 h2 => (gr.block k (by omega) (fun e => h1 (by injection e))).trans (hg.block k hk (fun e => h2 (by injection e)))⟩

set_option maxHeartbeats 1000000 in
set_option maxRecDepth 100000 in
theorem heap_pop (base p g n c : Nat) (T : TypeId) (L : List Int) (w : World) (hp : Blk w p T #[.slice (some ⟨g, 0, none⟩) (n + 1) c]) (hpg : p ≠ g) (h : Row w base g (n + 1) c L) (hh : Hp L) (hm : n ≤ 100) :
    Calls Try.prog 72 #[.iface 60 (.pointer (some ⟨p, 0, none⟩))] w (Popped base p g n c T L w) := by
  have hl := h.len
  obtain ⟨x, hx⟩ : ∃ x, L[0]? = some x := ⟨L[0]'(by omega), List.getElem?_eq_getElem _⟩
  obtain ⟨y, hy⟩ : ∃ y, L[n]? = some y := ⟨L[n]'(by omega), List.getElem?_eq_getElem _⟩
  have Hp0 := hide hp
  have H := hide h
  have HH := hide hh
  have Hl := hide hl
  have Hx := hide hx
  have Hy := hide hy
  have HD := hide (DnI.start hh hl hx hy)
  have hml := m_len 216 p _ w hp.cell0
  have hms := m_swap 216 p _ w hp.cell0
  clear hp h hh hl hx hy
  go_enter Try.func72, Try.ntmps72
  go_wp2_with fail
  refine (h_len _ (n + 1) c w (by unfold maxLen; omega)).mono ?_
  rintro e w' ⟨rfl, rfl⟩
  go_wp2_with fail
  refine (h_swap_t base g (n + 1) c 0 n _ _ x y L w H.out Hx.out Hy.out (by omega) (by first | rfl | omega) (by first | rfl | omega)).mono ?_
  rintro e w6 ⟨rfl, hR6, hg6⟩
  have HR6 := hide hR6
  have Hg6 := hide hg6
  have HB6 := hide (Hp0.out.grown hg6 (by simp [hpg]))
  clear hR6 hg6
  go_wp2_with fail
  refine (down_any base p g (n + 1) c n _ T (sw L 0 n x y) w6 (by first | rfl | omega) HB6.out hpg HR6.out (by omega) HD.out (by omega)).mono ?_
  rintro e w7 ⟨t, M, rfl, hpn, hds, hR7, hg7⟩
  obtain ⟨hMx, hT⟩ := took_of HH.out Hl.out Hx.out Hy.out hds hpn
  have HMx := hide hMx
  have HT := hide hT
  have HR7 := hide hR7
  have HB7 := hide (HB6.out.grown hg7 (by simp [hpg]))
  have Hg7 := hide (Hg6.out.trans hg7)
  clear hpn hds hR7 hg7 hMx hT
  go_wp2_with fail
  refine (pop_m base p g n c x T M w7 HB7.out HR7.out HMx.out (by omega)).mono ?_
  rintro e w8 ⟨rfl, rfl⟩
  go_wp2_with fail
  go_ret
  exact popped_of HB7.out hpg HT.out HR7.out Hg7.out
end Go.Proofs.Ytfncmkmhdddmiaa
