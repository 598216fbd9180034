/- accountBook.accounts: all accounts in order, in memory of the call's own. -/
import Derived.Test.YtohodhogbdcdmabNms
import Derived.Test.YtohodhogbdcdmabFof
import Derived.Test.YtohodhogbdcdmabDrawA2
import Derived.Maps.OwnSet
set_option linter.unusedVariables false
set_option linter.unusedSimpArgs false
namespace Go.Proofs.Ytohodhogbdcdmab
open Go.RowKit Go.Maps

theorem bytes40' (n : Nat) (h : n ≤ 100000) : n * 40 ≤ 140737488355328 := by omega
theorem take_next {X : List Acc} {k : Nat} {a : Acc} (ha : X[k]? = some a) : X.take (k + 1) = X.take k ++ [a] := by
  obtain ⟨h, e⟩ := List.getElem?_eq_some_iff.1 ha
  rw [List.take_succ_eq_append_getElem h, e]
/-- The loop of accounts: what has been built, the names' row. -/
def AcctsAt (w w2 : World) (M : List Acc) (A3 : Option Addr) (k : Nat) (v : Value) (wr : World) : Prop :=
  OwnA w.heap.size wr v (M.take k) ∧ Below w.heap.size w wr ∧ w2.heap.size ≤ wr.heap.size ∧ ∀ g3, A3 = some ⟨g3, 0, none⟩ → v.ownBlock ≠ some g3 ∧ wr.heap[g3]? = w2.heap[g3]?

theorem accts_step {w w2 wr w6 w7 : World} {M : List Acc} {A3 : Option Addr} {k n c : Nat} {A : Option Addr} {v6 v7 : Value} {a : Acc} {xs : List Value} (h : AcctsAt w w2 M A3 k (.slice A n c) wr) (ha : M[k]? = some a) (h3 : ∀ g3, A3 = some ⟨g3, 0, none⟩ → g3 < w2.heap.size)
    (hb6 : Below wr.heap.size wr w6) (hX : w6.ownsRow w.heap.size 31 2 (.slice A n c) n xs) (hR : RdA w6 (fun b => w.heap.size ≤ b ∧ b < w6.heap.size ∧ (Value.slice A n c).ownBlock ≠ some b) xs (M.take k)) (h6 : OwnL wr.heap.size w6 v6 a.2)
    (own7 : w7.ownsRow w.heap.size 31 2 v7 (n + 1) (xs ++ [.string a.1, v6])) (gr7 : (w6.alloc (.cells #[.string a.1, v6] 31)).grownBy w7 (Value.slice A n c).ownBlock)
    (at7 : v7.ownBlock = (Value.slice A n c).ownBlock ∨ v7.ownBlock = some (w6.alloc (.cells #[.string a.1, v6] 31)).heap.size) : AcctsAt w w2 M A3 (k + 1) v7 w7 := by
  obtain ⟨hO, hB, hS, hG⟩ := h
  have hs6 := hb6.size
  have hsB := hB.size
  have hlt := hO.lt
  have hfl : Fls w6 (fun b => w.heap.size ≤ b ∧ b < w6.heap.size ∧ (Value.slice A n c).ownBlock ≠ some b) v6 a.2 := by
    obtain ⟨A6, n6, c6, rfl, o6⟩ := h6
    exact (Fls.of_own o6).more fun b hb => ⟨by omega, hb.2.1, fun e => by have := (hlt b e).2; omega⟩
  have hgs := gr7.size
  simp only [World.size_alloc] at hgs
  refine ⟨?_, ?_, by omega, fun g3 e3 => ?_⟩
  · rw [take_next ha]
    exact outer_step hX hR own7 gr7 at7 hfl
  · exact Below.own ((hB.trans (hb6.mono hsB)).alloc (by omega) _) gr7 (hX.alloc _) (Nat.le_refl _) (by simp; omega)
  · obtain ⟨g1, g2⟩ := hG g3 e3
    have hg3 := h3 g3 e3
    refine ⟨?_, ?_⟩
    · rcases at7 with e | e
      · rw [e]; exact g1
      · rw [e]; intro h; simp at h; omega
    · rw [gr7.block g3 (by simp; omega) (fun e => g1 e.symm), Below.heap_alloc _ _ g3 (by omega), hb6.block g3 (by omega)]
      exact g2

set_option maxHeartbeats 1000000 in
set_option maxRecDepth 100000 in
theorem accts_of (b : Nat) (M : List Acc) (ok : Nat → Prop) (w : World) (hb : Book w ok b 6 M) (ha : Asc (nms M)) (hl : M.length ≤ 6) (hok : ∀ g, ok g → g < w.heap.size) (hsm : ∀ a ∈ M, a.1.size ≤ maxLen) (hfo : ∀ a ∈ M, a.2.length ≤ 1000) :
    Calls Try.prog 65 #[.map (some b)] w fun e w' => ∃ v, e = .returned v ∧ OwnA w.heap.size w' v M ∧ Below w.heap.size w w' := by
  obtain ⟨i1, hi1, hy0, hy1, hy2⟩ := info_parts acc_info
  have hUA := Try.underlying23
  obtain ⟨D, d1, d2⟩ := id hb
  have hq6 : Maps.size D ≤ 6 := d1.size_le
  have hblt := hb.lt
  have D1 := hide d1
  have Hb := hide hb
  have Ha := hide ha
  have Hok := hide hok
  have Hsm := hide hsm
  have Hfo := hide hfo
  have hbm : i1.bytes * Maps.size D ≤ 281474976710656 := by rw [hy2]; omega
  have hbm2 : Maps.size D ≤ maxLen := by unfold maxLen; omega
  clear hb ha hok hsm hfo d1 d2
  generalize hqq : Maps.size D = q at *
  have Hqq := hide hqq
  clear hqq
  go_enter Try.func65, Try.ntmps65
  go_wp2_with (first
    | (at_len
       refine wpList_len_own _ rfl _ 58 rfl 9 61 Try.underlying58 Rv b 6 D rfl D1.out ?_
       rw [Hqq.out])
    | (at_make
       refine wpList_make_own _ rfl (.const (.int .i64 0)) (.tmp 7) _ rfl w.heap.size 31 i1 _ 2 hUA hi1 hy0 hy1 .i64 .i64 (q : Int) q rfl rfl rfl hbm hbm2 (Nat.le_refl _) ?_
       intro w1 own1 gr1
       have hb1 : Below w.heap.size w w1 := (Below.refl _ _).grown gr1 (Nat.le_refl _) (by simp)
       have Hbk1 := hide (Hb.out.keep gr1 (by simp) (fun p hp => hb1.cell (Hok.out _ hp)))
       have Own1 := hide own1
       have Hb1 := hide hb1
       clear gr1 own1 hb1))
  refine (names_of b 6 M _ _ Hbk1.out Ha.out hl).mono ?_
  rintro e w2 ⟨v3, rfl, ⟨A3, n3, c3, rfl, own3⟩, hb2⟩
  have Own3 := hide own3
  have hn3 : Hid (M.length = n3) := by have h := own_len' own3; rw [nms_len] at h; exact h
  have hs1 := Hb1.out.size
  have hs2 := hb2.size
  have h3lt : Hid (∀ g3, A3 = some ⟨g3, 0, none⟩ → w1.heap.size ≤ g3 ∧ g3 < w2.heap.size) := fun g3 e => by subst e; exact own3.lt g3 rfl
  have Hst : Hid (AcctsAt w w2 M A3 0 (.slice (some ⟨w.heap.size, 0, none⟩) 0 q) w2) := by
    refine ⟨⟨_, 0, q, [], rfl, Own1.out.kept (grown_of_below hb2 (row := none)) (Classical.em _), RdA.nil⟩, Hb1.out.trans (hb2.mono hs1), Nat.le_refl _, fun g3 e => ⟨?_, rfl⟩⟩
    have h1 := h3lt.out g3 e
    have h2 := (Own1.out.lt w.heap.size rfl).2
    intro h; injection h with h; simp at h; omega
  have hn36 : n3 ≤ 6 := by have := hn3.out; omega
  clear hb2 own3
  go_wp2_with fail
  go_loopw [3, 5, 12] (fun v _ i wr => ∃ k : Nat, k ≤ n3 ∧ i = .int .i64 k ∧ Hid (AcctsAt w w2 M A3 k v wr)) (fun _ _ i _ => n3 - (intOf i).toNat)
  case atStart => exact ⟨0, Nat.zero_le _, rfl, Hst.out⟩
  case round =>
    obtain ⟨k, hk, rfl, hat⟩ := hrel
    by_cases hlt : k < n3
    · obtain ⟨a, hka⟩ : ∃ a, M[k]? = some a := ⟨M[k]'(by have := hn3.out; omega), List.getElem?_eq_getElem _⟩
      obtain ⟨hO, hB, hS, hG⟩ := hat.out
      obtain ⟨g3, cap3, e3, _, hg3⟩ := Own3.out.form (by omega)
      injection e3 with e31 _ e33
      subst e31 e33
      have hck : wr.cell? ⟨g3, k, none⟩ = some (.string a.1) := by
        rw [World.cell?_of_block (a := ⟨g3, k, none⟩) (hG g3 rfl).2, Own3.out.cellAt k (by omega), List.getElem?_map, nms_at hka]; rfl
      have hbk : Book wr ok b 6 M := Hb.out.keep (World.grownBy.mk hB.os hB.tape hB.output hB.size (fun q hq _ => hB.block q hq) : w.grownBy wr none) (by simp) (fun p hp => hB.cell (Hok.out _ hp))
      have hsma := Hsm.out a (List.mem_of_getElem? hka)
      obtain ⟨v4, hrun, hf⟩ := hbk.look hsma
      rw [fol_at Ha.out hka] at hf
      obtain ⟨A4, n4, c4, e4, _⟩ := id hf
      subst e4
      have hn4 : n4 ≤ 1000000 := by have h1 := (hf.more (ok' := (· < w.heap.size)) Hok.out).strs; have h2 := h1.1; have h3 := Hfo.out a (List.mem_of_getElem? hka); omega
      have hsB := hB.size
      have Hf : Hid (Fls wr (· < wr.heap.size) (.slice A4 n4 c4) a.2) := hf.more fun g hg => by have := Hok.out g hg; omega
      have Hka := hide hka
      have HO := hide hO
      have hlen : Hid ((M.take k).length = k) := by show _ = _; rw [List.length_take]; have := hn3.out; omega
      obtain ⟨Av, cv, ev, hcv, _⟩ := hO.len
      rw [hlen.out] at ev
      subst ev
      clear hbk hf hka hO hB hS hG hcv
      go_wp2_with fail
      refine (clone_any A4 n4 c4 a.2 _ Hf.out hn4).mono ?_
      rintro e w6 ⟨v6, rfl, hown6, hb6⟩
      obtain ⟨A6, n6, c6, e6, o6⟩ := hown6
      subst e6
      have hown6 : OwnL wr.heap.size w6 (.slice A6 n6 c6) a.2 := ⟨A6, n6, c6, rfl, o6⟩
      clear o6
      obtain ⟨Ax, nx, cx, xs, ex, hX, hR⟩ := HO.out.below hb6
      injection ex with ex1 ex2 ex3
      subst ex1 ex2 ex3
      have hs6 := hb6.size
      have hone : ∀ u ∈ [Value.string a.1, .slice A6 n6 c6], u.oneCell' = true := by
        intro u hu
        simp at hu
        rcases hu with rfl | rfl <;> rfl
      have b1 : k + 1 ≤ maxLen := by unfold maxLen; omega
      have b2 : (k + 1) * 40 ≤ 140737488355328 := bytes40' _ (by omega)
      have HX := hide hX
      have Hone := hide hone
      have Hb6 := hide hb6
      have HR := hide hR
      have Hown6 := hide hown6
      have hw6 : w.heap.size ≤ w6.heap.size := by omega
      have B2 := hide b2
      clear hX hone hb6 hR hown6 b2
      go_wp2_with (
        (at_builtin
         refine wpList_append_rd _ rfl (.tmp 16) (.tmp 23) _ rfl w.heap.size 31 i1 _ 2 40 hUA hi1 hy0 hy1 hy2 rfl (by omega) (.slice Av k cv) k xs rfl (HX.out.alloc _) (w6.heap.size + 1) (some ⟨w6.heap.size, 0, none⟩) 1 _ [Value.string a.1, .slice A6 n6 c6] rfl (Rd.two _ _ _ _) Hone.out b1 B2.out (by simp; omega) ?_
         intro v7 w7 own7 gr7 at7
         have H7 := hide (accts_step hat.out Hka.out (fun g e => (h3lt.out g e).2) Hb6.out HX.out HR.out Hown6.out own7 gr7 at7)
         clear own7 gr7 at7))
      go_roundw
      case rel => exact ⟨k + 1, by omega, by go_num, H7⟩
      case measure => simp [intOf]; omega
    · have HE : Hid (M.take k = M) := List.take_of_length_le (by have := hn3.out; omega)
      go_wp2_with fail
      go_ret
      obtain ⟨hO, hB, _, _⟩ := hat.out
      rw [HE.out] at hO
      exact ⟨_, rfl, hO, hB⟩
end Go.Proofs.Ytohodhogbdcdmab
