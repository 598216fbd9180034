/- What putting and dropping have to do with each other; plain mathematics. -/
import Derived.Test.YtohodhogbdcdmabOrd
set_option linter.unusedVariables false
set_option linter.unusedSimpArgs false
namespace Go.Proofs.Ytohodhogbdcdmab
open Go.RowKit

theorem putM_some {L M : List ByteArray} {s : ByteArray} (h : putM L s = some M) : M = put L s ∧ nsB L = true ∧ nvB s = true ∧ nsB M = true := by
  unfold putM at h
  split at h
  · rename_i hh
    simp only [Bool.and_eq_true] at hh
    injection h with h
    subst h
    exact ⟨rfl, hh.1.1, hh.1.2, hh.2⟩
  · cases h
theorem dropM_some {L M : List ByteArray} {s : ByteArray} (h : dropM L s = some M) : M = dropAt L (pos L s) ∧ nsB L = true ∧ memB L s = true := by
  unfold dropM at h
  split at h
  · rename_i hh
    simp only [Bool.and_eq_true] at hh
    injection h with h
    subst h
    exact ⟨rfl, hh.1, hh.2⟩
  · cases h
theorem putM_len {L M : List ByteArray} {s : ByteArray} (h : putM L s = some M) : M.length ≤ 11 := by have := nsB_le (putM_some h).2.2.2; omega
theorem dropAt_sub (L : List ByteArray) (k : Nat) : (dropAt L k).Sublist L := by
  unfold dropAt
  have h2 : (L.drop (k + 1)).Sublist (L.drop k) := by
    rw [show L.drop (k + 1) = (L.drop k).drop 1 by rw [List.drop_drop]]
    exact List.drop_sublist _ _
  have h3 := List.Sublist.append (List.Sublist.refl (L.take k)) h2
  rw [List.take_append_drop] at h3
  exact h3
theorem nsB_sub {L M : List ByteArray} (h : nsB L = true) (hs : M.Sublist L) : nsB M = true := by
  rw [nsB_iff] at h ⊢
  exact ⟨Nat.le_trans hs.length_le h.1, fun s hm => h.2.1 s (hs.subset hm), h.2.2.sublist hs⟩
theorem dropM_nsB {L M : List ByteArray} {s : ByteArray} (h : dropM L s = some M) : nsB M = true := by
  obtain ⟨rfl, h1, _⟩ := dropM_some h
  exact nsB_sub h1 (dropAt_sub _ _)
theorem dropM_len {L M : List ByteArray} {s : ByteArray} (h : dropM L s = some M) : M.length ≤ 11 := by have := nsB_le (dropM_nsB h); omega

theorem Asc.uniq {L : List ByteArray} (ha : Asc L) {i j : Nat} {s : ByteArray} (hi : L[i]? = some s) (hj : L[j]? = some s) : i = j := by
  rcases Nat.lt_trichotomy i j with h | h | h
  · have := ha.lt_at hi hj h; rw [blt_irrefl] at this; cases this
  · exact h
  · have := ha.lt_at hj hi h; rw [blt_irrefl] at this; cases this
theorem asc_pos {L : List ByteArray} (ha : Asc L) {i : Nat} {s : ByteArray} (hi : L[i]? = some s) : pos L s = i :=
  ha.uniq ((mem_pos ha).1 (List.mem_of_getElem? hi)) hi
theorem split_at {L : List ByteArray} {i : Nat} {s : ByteArray} (h : L[i]? = some s) : L = L.take i ++ s :: L.drop (i + 1) := by
  obtain ⟨hi, rfl⟩ := List.getElem?_eq_some_iff.1 h
  conv => lhs; rw [← List.take_append_drop i L]
  rw [List.drop_eq_getElem_cons hi]
theorem asc_dropAt {L : List ByteArray} (ha : Asc L) (k : Nat) : Asc (dropAt L k) := ha.sublist (dropAt_sub L k)
theorem not_mem_dropAt {L : List ByteArray} (ha : Asc L) {i : Nat} {s : ByteArray} (h : L[i]? = some s) : s ∉ dropAt L i := by
  unfold dropAt
  intro hm
  rcases List.mem_append.1 hm with h1 | h1
  · obtain ⟨j, hj, e⟩ := List.mem_iff_getElem.1 h1
    rw [List.getElem_take] at e
    have hj2 : j < i := by rw [List.length_take] at hj; omega
    have := ha.lt_at (i := j) (j := i) (a := s) (b := s) (by rw [← e]; exact List.getElem?_eq_getElem _) h hj2
    rw [blt_irrefl] at this; cases this
  · obtain ⟨j, hj, e⟩ := List.mem_iff_getElem.1 h1
    rw [List.getElem_drop] at e
    have := ha.lt_at (i := i) (j := i + 1 + j) (a := s) (b := s) h (by rw [← e]; exact List.getElem?_eq_getElem _) (by omega)
    rw [blt_irrefl] at this; cases this
theorem len_dropAt {L : List ByteArray} {i : Nat} (h : i < L.length) : (dropAt L i).length + 1 = L.length := by unfold dropAt; simp; omega
/-- The names but s. -/
def filt (L : List ByteArray) (s : ByteArray) : List ByteArray := L.filter fun t => decide (t ≠ s)
theorem filt_not {L : List ByteArray} {s : ByteArray} (h : s ∉ L) : filt L s = L := by
  unfold filt
  rw [List.filter_eq_self]
  intro t ht
  simp only [decide_eq_true_eq]
  rintro rfl; exact h ht
theorem filt_at {L : List ByteArray} (ha : Asc L) {i : Nat} {s : ByteArray} (h : L[i]? = some s) : filt L s = dropAt L i := by
  have hn := not_mem_dropAt ha h
  have e := split_at h
  have : filt L s = filt (dropAt L i) s := by
    conv => lhs; rw [e]
    unfold filt dropAt
    rw [List.filter_append, List.filter_append, List.filter_cons]
    simp
  rw [this, filt_not hn]
/-- Putting, then dropping. -/
theorem put_at {L : List ByteArray} {s : ByteArray} (hm : memB L s = false) : (put L s)[pos L s]? = some s ∧ dropAt (put L s) (pos L s) = L := by
  rw [put_f hm]
  have hp := pos_le L s
  have hlen : (L.take (pos L s)).length = pos L s := by rw [List.length_take]; omega
  constructor
  · rw [List.getElem?_append_right (by omega), hlen, Nat.sub_self]; rfl
  · unfold dropAt
    rw [List.take_append_of_le_length (by omega), List.take_of_length_le (by omega)]
    have : (L.take (pos L s) ++ s :: L.drop (pos L s)).drop (pos L s + 1) = L.drop (pos L s) := by
      rw [List.drop_append, List.drop_of_length_le (by omega), hlen, show pos L s + 1 - pos L s = 1 by omega]
      rfl
    rw [this, List.take_append_drop]
theorem put_drop {L : List ByteArray} {s : ByteArray} (ha : Asc L) (hm : memB L s = false) : dropAt (put L s) (pos (put L s) s) = L := by
  have h := put_at hm
  rw [asc_pos (put_asc ha) h.1]; exact h.2
/-- Dropping, then putting. -/
theorem drop_put {L : List ByteArray} {s : ByteArray} (ha : Asc L) (hs : s ∈ L) : memB (dropAt L (pos L s)) s = false ∧ put (dropAt L (pos L s)) s = L := by
  have hi := (mem_pos ha).1 hs
  have hn := not_mem_dropAt ha hi
  have hm := memB_f hn
  refine ⟨hm, ?_⟩
  have hl := (List.getElem?_eq_some_iff.1 hi).1
  have hp : pos (dropAt L (pos L s)) s = pos L s := by
    generalize hk : pos L s = k at *
    have ha2 := asc_dropAt ha k
    have hlt : ∀ t, t ∈ L.take k → blt t s = true := fun t ht => by
      obtain ⟨j, hj, rfl⟩ := List.mem_iff_getElem.1 ht
      have hj2 : j < k := by rw [List.length_take] at hj; omega
      rw [List.getElem_take]
      exact pos_lo (by omega) (List.getElem?_eq_getElem _)
    unfold pos dropAt
    rw [List.takeWhile_append_of_pos hlt]
    have h0 : (L.drop (k + 1)).takeWhile (fun t => blt t s) = [] := by
      rcases hd : L.drop (k + 1) with _ | ⟨t, r⟩
      · rfl
      · have ht : L[k + 1]? = some t := by
          have : (L.drop (k + 1))[0]? = some t := by rw [hd]; rfl
          rw [List.getElem?_drop] at this; exact this
        have := blt_asymm (ha.lt_at hi ht (by omega))
        rw [List.takeWhile_cons, this]; rfl
    rw [h0, List.append_nil, List.length_take]; omega
  rw [put_f hm, hp]
  generalize pos L s = k at *
  unfold dropAt
  have hlen : (L.take k).length = k := by rw [List.length_take]; omega
  rw [List.take_append_of_le_length (by omega), List.take_of_length_le (by omega), List.drop_append, List.drop_of_length_le (by omega), hlen, Nat.sub_self, List.drop_zero, List.nil_append]
  exact (split_at hi).symm
theorem putM_again {L M : List ByteArray} {s t : ByteArray} (h : putM L s = some M) (ht : t ∈ M) : putM M t = some M := by
  obtain ⟨rfl, h1, h2, h3⟩ := putM_some h
  have e : put (put L s) t = put L s := put_t (memB_t ht)
  rw [putM_t h3 (nsB_nv h3 ht) (by rw [e]; exact h3), e]
theorem putM_drop {L M : List ByteArray} {s : ByteArray} (h : putM L s = some M) : ∃ K, dropM M s = some K ∧ (s ∉ L → K = L) := by
  obtain ⟨rfl, h1, h2, h3⟩ := putM_some h
  refine ⟨_, dropM_t h3 (memB_t (put_mem.2 (.inl rfl))), fun hs => put_drop (nsB_asc h1) (memB_f hs)⟩
theorem dropM_facts {L M : List ByteArray} {s : ByteArray} (h : dropM L s = some M) : nsB M = true ∧ M.length + 1 = L.length ∧ s ∉ M ∧ dropM M s = none ∧ s ∈ L ∧ putM M s = some L := by
  have hn := dropM_nsB h
  obtain ⟨rfl, h1, h2⟩ := dropM_some h
  have hi := (mem_pos (nsB_asc h1)).1 (memB_iff.1 h2)
  have hne := not_mem_dropAt (nsB_asc h1) hi
  have hdp := drop_put (nsB_asc h1) (memB_iff.1 h2)
  refine ⟨hn, len_dropAt (List.getElem?_eq_some_iff.1 hi).1, hne, dropM_2 (memB_f hne), memB_iff.1 h2, ?_⟩
  rw [putM_t hn (nsB_nv h1 (memB_iff.1 h2)) (by rw [hdp.2]; exact h1), hdp.2]
theorem dropM_one {L : List ByteArray} {s : ByteArray} (h : nsB L = true) (hs : s ∈ L) : ∃ K, dropM L s = some K := ⟨_, dropM_t h (memB_t hs)⟩
theorem putM_others {L M : List ByteArray} {s : ByteArray} (h : putM L s = some M) : filt L s = filt M s ∧ M.length = (filt M s).length + 1 := by
  obtain ⟨rfl, h1, h2, h3⟩ := putM_some h
  have ha := nsB_asc h1
  cases hm : memB L s
  · have h := put_at hm
    have hf := filt_at (put_asc ha) h.1
    rw [hf, h.2]
    have hs : s ∉ L := fun hs => by rw [memB_t hs] at hm; cases hm
    refine ⟨filt_not hs, ?_⟩
    have := len_dropAt (List.getElem?_eq_some_iff.1 h.1).1
    rw [h.2] at this; omega
  · rw [put_t hm]
    have hi := (mem_pos ha).1 (memB_iff.1 hm)
    refine ⟨rfl, ?_⟩
    rw [filt_at ha hi]
    have := len_dropAt (List.getElem?_eq_some_iff.1 hi).1
    omega
theorem nsB_dropAt {L : List ByteArray} (h : nsB L = true) (k : Nat) : nsB (dropAt L k) = true := nsB_sub h (dropAt_sub L k)
theorem nsB_twice {L : List ByteArray} {k : Nat} (hk : k < L.length) : nsB (L.take (k + 1) ++ L.drop k) = false := by
  refine nsB_f fun h => ?_
  have hl : (L.take (k + 1)).length = k + 1 := by rw [List.length_take]; omega
  have h1 : (L.take (k + 1) ++ L.drop k)[k]? = some L[k] := by
    rw [List.getElem?_append_left (by omega), List.getElem?_take, if_pos (by omega), List.getElem?_eq_getElem hk]
  have h2 : (L.take (k + 1) ++ L.drop k)[k + 1]? = some L[k] := by
    rw [List.getElem?_append_right (by omega), hl, Nat.sub_self, List.getElem?_drop, Nat.add_zero, List.getElem?_eq_getElem hk]
  have := asc_iff.1 h.2.2 k _ _ h1 h2
  rw [blt_irrefl] at this
  cases this
end Go.Proofs.Ytohodhogbdcdmab
