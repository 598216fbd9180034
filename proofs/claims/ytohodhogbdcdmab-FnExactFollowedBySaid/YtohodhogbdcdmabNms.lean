/- accountBook.names: the names in order. -/
import Derived.Test.YtohodhogbdcdmabIter
import Derived.Test.YtohodhogbdcdmabDict
import Derived.Test.YtohodhogbdcdmabWith
import Derived.Sort.Walk0
import Derived.Sort.KeysCollected
set_option linter.unusedVariables false
set_option linter.unusedSimpArgs false
namespace Go.Proofs.Ytohodhogbdcdmab
open Go.RowKit Go.Maps Go.Sort Go.Shelf

theorem sorted_names {D : DataW Value} {M : List Acc} {w : World} {b n : Nat} (h1 : w.ownsMap Try.prog 9 Rv b n D) (h2 : Tidy D) (h3 : ∀ s, has D (kl s) = memB (nms M) s) (ha : Asc (nms M)) {ss : List (List UInt8)} (hp : ss.Perm (strKeys D)) :
    (ss.mergeSort (fun x y => decide (x ≤ y))).map encStr = (nms M).map Value.string ∧ ss.length = (nms M).length := by
  obtain ⟨es, rfl, hes⟩ := h1.keysOf
  have hk : ∀ p ∈ es, ∃ x, p.1 = .string x := fun p hp => by
    obtain ⟨key, hkey⟩ := hes p hp
    obtain ⟨x, _, e, _⟩ := Maps.keyOf_str Try.underlying9 hkey
    exact ⟨x, e⟩
  have hpw : es.Pairwise (fun p q => p.1 ≠ q.1) := by
    obtain ⟨es', e, h⟩ := h2
    cases e; exact h
  let L := (nms M).map (fun s : ByteArray => s.data.toList)
  have hnd : L.Nodup := List.Pairwise.map _ (fun a b hab e => hab (by cases a; cases b; exact congrArg ByteArray.mk (Array.toList_inj.1 e))) ha.nodup
  have hL : L.Perm (strKeys (.map es)) := perm_strKeys hpw hk hnd (fun x => by
    have h := h3 ⟨x.toArray⟩
    have e : kl ⟨x.toArray⟩ = .string x := rfl
    rw [e] at h
    rw [h, memB_iff]
    show x ∈ (nms M).map (fun s : ByteArray => s.data.toList) ↔ _
    rw [List.mem_map]
    constructor
    · rintro ⟨s, hs, rfl⟩; exact hs
    · intro hs; exact ⟨_, hs, rfl⟩)
  have hsl : ss.Perm L := hp.trans hL.symm
  have hsrt : L.Pairwise (fun x y => decide (x ≤ y) = true) := by
    refine List.pairwise_map.2 (List.Pairwise.imp (fun {a b} hab => ?_) ha)
    unfold blt at hab
    rw [bytesLess_eq, Lib.toList_data, Lib.toList_data] at hab
    simp only [decide_eq_true_eq] at hab ⊢
    exact List.le_of_lt hab
  have hms : ss.mergeSort (fun x y => decide (x ≤ y)) = L := (mergeSort_of_perm hsl).trans (List.mergeSort_of_pairwise hsrt)
  refine ⟨?_, by rw [hsl.length_eq]; exact List.length_map _⟩
  rw [hms, List.map_map]
  apply List.map_congr_left
  intro s _
  show Value.string ⟨s.data.toList.toArray⟩ = Value.string s
  rw [Array.toArray_toList]

set_option maxHeartbeats 1000000 in
theorem names_of (b n : Nat) (M : List Acc) (ok : Nat → Prop) (w : World) (hb : Book w ok b n M) (ha : Asc (nms M)) (hl : M.length ≤ 6) :
    Calls Try.prog 61 #[.map (some b)] w fun e w' => Own1 w (nms M) e w' := by
  obtain ⟨D, h1, h2, h3, h4⟩ := hb
  have hsz : Maps.size D ≤ 6 := by
    obtain ⟨es, e, hes⟩ := h1.keysOf
    have hk : ∀ p ∈ es, ∃ x, p.1 = .string x := fun p hp => by
      obtain ⟨key, hkey⟩ := hes p hp
      obtain ⟨x, _, e, _⟩ := Maps.keyOf_str Try.underlying9 hkey
      exact ⟨x, e⟩
    have h := (sorted_names h1 h2 h3 ha (List.Perm.refl (strKeys D))).2
    subst e
    have h5 : (strKeys (.map es : DataW Value)).length = es.length := List.length_map _
    rw [h5, nms_len] at h
    show es.length ≤ 6
    omega
  have hmax : Maps.size D ≤ maxLen := by unfold maxLen; omega
  have hbytes : Maps.size D * 16 ≤ 140737488355328 := by omega
  refine (callsIn_wide (n := 6)).1 ?_
  have hfK : Fence.wide.fn 76 := trivial
  have hfS : Fence.wide.fn 75 := trivial
  have H1 := hide h1
  have H2 := hide h2
  have H3 := hide h3
  have Ha := hide ha
  clear h1 h2 h3 h4 ha
  refine callsIn_of_wp Try.func61 rfl trivial ?_ rfl
  simp only [Try.ntmps61, List.size_toArray, List.length_cons, List.length_nil, Nat.reduceAdd, Nat.reduceSub, Array.replicate_succ, Array.replicate_zero, List.push_toArray, List.append_toArray, List.nil_append, List.cons_append]
  gi_wp2_with (first
    | (gi_at_call 76; refine (keys_call _ _).mono ?_; rintro e w' ⟨rfl, rfl⟩)
    | (gi_at_call 75; refine (sorted_call b n D Rv w H1.out hmax hbytes).mono ?_; rintro e w' ⟨v, ss, rfl, hS, hrow, hnil, hb⟩))
  go_ret
  have hs := sorted_names H1.out H2.out H3.out Ha.out hS
  refine ⟨v, rfl, OwnL.mk (own_base hrow (by simp)) ?_, ((Below.refl _ w).alloc (Nat.le_refl _) _).trans (hb.mono (by simp))⟩
  exact hs.1
end Go.Proofs.Ytohodhogbdcdmab
