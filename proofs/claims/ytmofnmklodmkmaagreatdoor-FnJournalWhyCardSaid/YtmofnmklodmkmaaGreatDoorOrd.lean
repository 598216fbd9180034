/- Lists of names: order, validity, putting, dropping; plain mathematics. -/
import Derived.Test.YtmofnmklodmkmaaGreatDoorMath
import GoSem.Op.String
namespace Go.Proofs.YtmofnmklodmkmaaGreatDoor
open Go.RowKit

def blt (a b : ByteArray) : Bool := Op.bytesLess a.toList b.toList
theorem less_irrefl : ∀ x : List UInt8, Op.bytesLess x x = false
  | [] => rfl
  | a :: x => by simp [Op.bytesLess, less_irrefl x]
theorem less_trans : ∀ x y z : List UInt8, Op.bytesLess x y = true → Op.bytesLess y z = true → Op.bytesLess x z = true
  | _, [], _, h, _ => by cases ‹List UInt8› <;> simp [Op.bytesLess] at h
  | _, _ :: _, [], _, h => by simp [Op.bytesLess] at h
  | [], _ :: _, _ :: _, _, _ => by simp [Op.bytesLess]
  | a :: x, b :: y, c :: z, h1, h2 => by
    simp only [Op.bytesLess, Bool.or_eq_true, decide_eq_true_eq, Bool.and_eq_true, beq_iff_eq] at h1 h2 ⊢
    rcases h1 with h1 | ⟨rfl, h1⟩
    · rcases h2 with h2 | ⟨rfl, h2⟩
      · exact .inl (UInt8.lt_trans h1 h2)
      · exact .inl h1
    · rcases h2 with h2 | ⟨rfl, h2⟩
      · exact .inl h2
      · exact .inr ⟨rfl, less_trans x y z h1 h2⟩
theorem less_tri : ∀ x y : List UInt8, Op.bytesLess x y = false → Op.bytesLess y x = false → x = y
  | [], [], _, _ => rfl
  | [], _ :: _, h, _ => by simp [Op.bytesLess] at h
  | _ :: _, [], _, h => by simp [Op.bytesLess] at h
  | a :: x, b :: y, h1, h2 => by
    simp only [Op.bytesLess, Bool.or_eq_false_iff, decide_eq_false_iff_not, Bool.and_eq_false_iff] at h1 h2
    have e : a = b := by
      have p1 := h1.1
      have p2 := h2.1
      rw [UInt8.lt_iff_toNat_lt] at p1 p2
      exact UInt8.toNat_inj.1 (by omega)
    subst e
    have q1 : Op.bytesLess x y = false := by simpa using h1.2
    have q2 : Op.bytesLess y x = false := by simpa using h2.2
    rw [less_tri x y q1 q2]
theorem toList_inj {a b : ByteArray} (h : a.toList = b.toList) : a = b := by
  rw [Lib.toList_data, Lib.toList_data] at h
  cases a; cases b
  exact congrArg ByteArray.mk (Array.toList_inj.1 h)
theorem blt_irrefl (a : ByteArray) : blt a a = false := less_irrefl _
theorem blt_trans {a b c : ByteArray} (h1 : blt a b = true) (h2 : blt b c = true) : blt a c = true := less_trans _ _ _ h1 h2
theorem blt_tri {a b : ByteArray} (h1 : blt a b = false) (h2 : blt b a = false) : a = b := toList_inj (less_tri _ _ h1 h2)
theorem blt_asymm {a b : ByteArray} (h : blt a b = true) : blt b a = false := by
  cases h2 : blt b a
  · rfl
  · have := blt_trans h h2; rw [blt_irrefl] at this; exact this.symm
theorem blt_ne {a b : ByteArray} (h : blt a b = true) : a ≠ b := by
  rintro rfl; rw [blt_irrefl] at h; cases h

def memB (L : List ByteArray) (s : ByteArray) : Bool := L.any fun t => decide (t = s)
theorem memB_iff {L : List ByteArray} {s : ByteArray} : memB L s = true ↔ s ∈ L := by simp [memB]
theorem memB_t {L : List ByteArray} {s : ByteArray} (h : s ∈ L) : memB L s = true := memB_iff.2 h
theorem memB_f {L : List ByteArray} {s : ByteArray} (h : s ∉ L) : memB L s = false := by rw [← Bool.not_eq_true, memB_iff]; exact h

/-- Ascending. -/
def Asc (L : List ByteArray) : Prop := L.Pairwise fun a b => blt a b = true
instance (L : List ByteArray) : Decidable (Asc L) := by unfold Asc; exact inferInstance
/-- Valid names. -/
def nsB (L : List ByteArray) : Bool := decide (L.length ≤ 10) && L.all nvB && decide (Asc L)
theorem nsB_iff {L : List ByteArray} : nsB L = true ↔ L.length ≤ 10 ∧ (∀ s ∈ L, nvB s = true) ∧ Asc L := by
  unfold nsB; simp [and_assoc]
theorem nsB_f {L : List ByteArray} (h : ¬(L.length ≤ 10 ∧ (∀ s ∈ L, nvB s = true) ∧ Asc L)) : nsB L = false := by
  rw [← Bool.not_eq_true, nsB_iff]; exact h

theorem asc_iff {L : List ByteArray} : Asc L ↔ ∀ k a b, L[k]? = some a → L[k + 1]? = some b → blt a b = true := by
  constructor
  · intro h k a b ha hb
    obtain ⟨h1, rfl⟩ := List.getElem?_eq_some_iff.1 ha
    obtain ⟨h2, rfl⟩ := List.getElem?_eq_some_iff.1 hb
    exact List.pairwise_iff_getElem.1 h k (k + 1) h1 h2 (by omega)
  · intro h
    have key : ∀ d i, (hi : i + d + 1 < L.length) → blt (L[i]'(by omega)) L[i + d + 1] = true := by
      intro d
      induction d with
      | zero => exact fun i hi => h i _ _ (List.getElem?_eq_getElem (by omega)) (List.getElem?_eq_getElem hi)
      | succ d ih =>
        intro i hi
        exact blt_trans (ih i (by omega)) (h (i + d + 1) _ _ (List.getElem?_eq_getElem (by omega)) (List.getElem?_eq_getElem (by omega)))
    refine List.pairwise_iff_getElem.2 fun i j hi hj hij => ?_
    obtain ⟨d, rfl⟩ : ∃ d, j = i + d + 1 := ⟨j - i - 1, by omega⟩
    exact key d i hj
theorem Asc.lt_at {L : List ByteArray} (h : Asc L) {i j : Nat} {a b : ByteArray} (ha : L[i]? = some a) (hb : L[j]? = some b) (hij : i < j) : blt a b = true := by
  obtain ⟨h1, rfl⟩ := List.getElem?_eq_some_iff.1 ha
  obtain ⟨h2, rfl⟩ := List.getElem?_eq_some_iff.1 hb
  exact List.pairwise_iff_getElem.1 h i j h1 h2 hij
theorem Asc.nodup {L : List ByteArray} (h : Asc L) : L.Nodup := by
  unfold List.Nodup
  exact List.Pairwise.imp (fun h => blt_ne h) h

/-- Where s has to be put: how many of the first ones are less. -/
def pos (L : List ByteArray) (s : ByteArray) : Nat := (L.takeWhile fun t => blt t s).length
theorem pos_le (L : List ByteArray) (s : ByteArray) : pos L s ≤ L.length := by
  unfold pos; exact (List.takeWhile_prefix _).length_le
theorem pos_lo {L : List ByteArray} {s t : ByteArray} {j : Nat} (hj : j < pos L s) (ht : L[j]? = some t) : blt t s = true := by
  unfold pos at hj
  have hm : (L.takeWhile fun t => blt t s)[j]? = some t := by
    have hp := List.takeWhile_prefix (l := L) (fun t => blt t s)
    obtain ⟨r, hr⟩ := hp
    rw [← hr, List.getElem?_append_left hj] at ht
    exact ht
  have := List.mem_of_getElem? hm
  have := List.all_takeWhile (p := fun t => blt t s) (l := L)
  rw [List.all_eq_true] at this
  exact this t ‹_›
theorem pos_at : ∀ {L : List ByteArray} {s t : ByteArray}, L[pos L s]? = some t → blt t s = false
  | [], s, t, h => by simp at h
  | a :: L, s, t, h => by
    unfold pos at h
    rw [List.takeWhile_cons] at h
    by_cases ha : blt a s = true
    · rw [if_pos ha] at h
      exact pos_at (L := L) (by simpa [pos] using h)
    · rw [if_neg ha] at h
      simp at h
      subst h
      simpa using ha
theorem pos_hi {L : List ByteArray} {s t : ByteArray} {j : Nat} (ha : Asc L) (hj : pos L s ≤ j) (ht : L[j]? = some t) : blt t s = false := by
  have hl : pos L s < L.length := by have := (List.getElem?_eq_some_iff.1 ht).1; omega
  have h0 := pos_at (List.getElem?_eq_getElem hl)
  rcases Nat.eq_or_lt_of_le hj with e | h
  · subst e; exact pos_at ht
  · have h1 := ha.lt_at (List.getElem?_eq_getElem hl) ht h
    cases h2 : blt t s
    · rfl
    · rw [blt_trans h1 h2] at h0; exact h0
theorem mem_pos {L : List ByteArray} {s : ByteArray} (ha : Asc L) : s ∈ L ↔ L[pos L s]? = some s := by
  constructor
  · intro h
    obtain ⟨j, hj, e⟩ := List.mem_iff_getElem.1 h
    have hs : L[j]? = some s := by rw [List.getElem?_eq_getElem hj, e]
    have h1 : pos L s ≤ j := by
      rcases Nat.lt_or_ge j (pos L s) with h | h
      · have := pos_lo h hs; rw [blt_irrefl] at this; cases this
      · exact h
    rcases Nat.eq_or_lt_of_le h1 with e | h
    · rw [e]; exact hs
    · have hl : pos L s < L.length := by omega
      have h0 := pos_at (List.getElem?_eq_getElem hl)
      rw [ha.lt_at (List.getElem?_eq_getElem hl) hs h] at h0
      cases h0
  · exact fun h => List.mem_of_getElem? h

/-- s put at its place, if it is not there. -/
def put (L : List ByteArray) (s : ByteArray) : List ByteArray := if memB L s = true then L else L.take (pos L s) ++ s :: L.drop (pos L s)
theorem put_t {L : List ByteArray} {s : ByteArray} (h : memB L s = true) : put L s = L := by unfold put; rw [if_pos h]
theorem put_f {L : List ByteArray} {s : ByteArray} (h : memB L s = false) : put L s = L.take (pos L s) ++ s :: L.drop (pos L s) := by unfold put; rw [h]; rfl
/-- NamesPut, NamesDrop. -/
def putM (L : List ByteArray) (s : ByteArray) : Option (List ByteArray) := if (nsB L && nvB s && nsB (put L s)) = true then some (put L s) else none
def dropAt (L : List ByteArray) (k : Nat) : List ByteArray := L.take k ++ L.drop (k + 1)
def dropM (L : List ByteArray) (s : ByteArray) : Option (List ByteArray) := if (nsB L && memB L s) = true then some (dropAt L (pos L s)) else none
theorem putM_1 {L : List ByteArray} {s : ByteArray} (h : nsB L = false) : putM L s = none := by unfold putM; rw [h]; rfl
theorem putM_2 {L : List ByteArray} {s : ByteArray} (h : nvB s = false) : putM L s = none := by unfold putM; rw [h, Bool.and_false]; rfl
theorem putM_3 {L : List ByteArray} {s : ByteArray} (h : nsB (put L s) = false) : putM L s = none := by unfold putM; rw [h, Bool.and_false]; rfl
theorem putM_t {L : List ByteArray} {s : ByteArray} (h1 : nsB L = true) (h2 : nvB s = true) (h3 : nsB (put L s) = true) : putM L s = some (put L s) := by unfold putM; rw [h1, h2, h3]; rfl
theorem dropM_1 {L : List ByteArray} {s : ByteArray} (h : nsB L = false) : dropM L s = none := by unfold dropM; rw [h]; rfl
theorem dropM_2 {L : List ByteArray} {s : ByteArray} (h : memB L s = false) : dropM L s = none := by unfold dropM; rw [h, Bool.and_false]; rfl
theorem dropM_t {L : List ByteArray} {s : ByteArray} (h1 : nsB L = true) (h2 : memB L s = true) : dropM L s = some (dropAt L (pos L s)) := by unfold dropM; rw [h1, h2]; rfl
theorem nsB_asc {L : List ByteArray} (h : nsB L = true) : Asc L := (nsB_iff.1 h).2.2
theorem nsB_le {L : List ByteArray} (h : nsB L = true) : L.length ≤ 10 := (nsB_iff.1 h).1
theorem nsB_nv {L : List ByteArray} (h : nsB L = true) {s : ByteArray} (hs : s ∈ L) : nvB s = true := (nsB_iff.1 h).2.1 s hs
theorem put_mem {L : List ByteArray} {s t : ByteArray} : t ∈ put L s ↔ t = s ∨ t ∈ L := by
  cases hm : memB L s
  · rw [put_f hm, List.mem_append, List.mem_cons]
    constructor
    · rintro (h | h | h)
      · exact .inr (List.mem_of_mem_take h)
      · exact .inl h
      · exact .inr (List.mem_of_mem_drop h)
    · rintro (h | h)
      · exact .inr (.inl h)
      · rw [← List.take_append_drop (pos L s) L, List.mem_append] at h
        rcases h with h | h
        · exact .inl h
        · exact .inr (.inr h)
  · rw [put_t hm]
    constructor
    · exact .inr
    · rintro (rfl | h)
      · exact memB_iff.1 hm
      · exact h
theorem put_len (L : List ByteArray) (s : ByteArray) : (put L s).length ≤ L.length + 1 := by
  cases hm : memB L s
  · rw [put_f hm]; have := pos_le L s; simp; omega
  · rw [put_t hm]; omega
theorem put_asc {L : List ByteArray} {s : ByteArray} (ha : Asc L) : Asc (put L s) := by
  cases hm : memB L s
  · rw [put_f hm]
    unfold Asc
    rw [List.pairwise_append, List.pairwise_cons]
    have hlo : ∀ t ∈ L.take (pos L s), blt t s = true := fun t ht => by
      obtain ⟨j, hj, rfl⟩ := List.mem_iff_getElem.1 ht
      have hj2 : j < pos L s := by rw [List.length_take] at hj; omega
      rw [List.getElem_take]
      exact pos_lo hj2 (List.getElem?_eq_getElem _)
    have hhi : ∀ t ∈ L.drop (pos L s), blt s t = true := fun t ht => by
      obtain ⟨j, hj, rfl⟩ := List.mem_iff_getElem.1 ht
      rw [List.getElem_drop]
      have h1 := pos_hi (s := s) (j := pos L s + j) ha (by omega) (List.getElem?_eq_getElem (by rw [List.length_drop] at hj; omega))
      cases h2 : blt s (L[pos L s + j]'(by rw [List.length_drop] at hj; omega))
      · have e := blt_tri h1 h2
        have : s ∈ L := e ▸ List.getElem_mem _
        rw [memB_t this] at hm; cases hm
      · rfl
    refine ⟨ha.sublist (List.take_sublist _ _), ⟨hhi, ha.sublist (List.drop_sublist _ _)⟩, fun t ht u hu => ?_⟩
    rcases List.mem_cons.1 hu with rfl | hu
    · exact hlo t ht
    · exact blt_trans (hlo t ht) (hhi u hu)
  · rw [put_t hm]; exact ha
theorem nsB_put {L : List ByteArray} {s : ByteArray} (h1 : nsB L = true) (h2 : nvB s = true) (h3 : (put L s).length ≤ 10) : nsB (put L s) = true := by
  rw [nsB_iff]
  refine ⟨h3, fun t ht => ?_, put_asc (nsB_asc h1)⟩
  rcases put_mem.1 ht with rfl | h
  · exact h2
  · exact nsB_nv h1 h

/-- What has been collected behind k rounds, and whether s is in it. -/
def doneF (L : List ByteArray) (s : ByteArray) (k : Nat) : Bool := memB L s || decide (pos L s < k)
def accF (L : List ByteArray) (s : ByteArray) (k : Nat) : List ByteArray := if memB L s = true ∨ k ≤ pos L s then L.take k else L.take (pos L s) ++ s :: (L.drop (pos L s)).take (k - pos L s)
theorem take_one {L : List ByteArray} {k : Nat} {t : ByteArray} (ht : L[k]? = some t) : L.take (k + 1) = L.take k ++ [t] := by
  obtain ⟨h, rfl⟩ := List.getElem?_eq_some_iff.1 ht
  rw [List.take_succ_eq_append_getElem h]
theorem acc_done {L : List ByteArray} {s t : ByteArray} {k : Nat} (hd : doneF L s k = true) (ht : L[k]? = some t) : accF L s (k + 1) = accF L s k ++ [t] ∧ doneF L s (k + 1) = true := by
  unfold doneF accF at *
  cases hm : memB L s
  · simp only [hm, Bool.false_or, decide_eq_true_eq, Bool.false_eq_true, false_or] at hd ⊢
    rw [if_neg (by omega), if_neg (by omega)]
    refine ⟨?_, by omega⟩
    have h2 : (L.drop (pos L s))[k - pos L s]? = some t := by rw [List.getElem?_drop, ← ht]; congr 1; omega
    rw [show k + 1 - pos L s = k - pos L s + 1 by omega, take_one h2]
    simp
  · simp [take_one ht]
theorem acc_lo {L : List ByteArray} {s t : ByteArray} {k : Nat} (ha : Asc L) (hd : doneF L s k = false) (ht : L[k]? = some t) (hl : blt t s = true) : accF L s (k + 1) = accF L s k ++ [t] ∧ doneF L s (k + 1) = false := by
  unfold doneF accF at *
  simp only [Bool.or_eq_false_iff, decide_eq_false_iff_not] at hd
  have hk : k < pos L s := by
    rcases Nat.lt_or_ge k (pos L s) with h | h
    · exact h
    · rw [pos_hi ha h ht] at hl; cases hl
  rw [if_pos (.inr (by omega)), if_pos (.inr (by omega)), take_one ht, hd.1]
  exact ⟨rfl, by simp; omega⟩
theorem acc_at {L : List ByteArray} {s t : ByteArray} {k : Nat} (hd : doneF L s k = false) (ht : L[k]? = some t) (hl : blt t s = false) : accF L s (k + 1) = accF L s k ++ [s] ++ [t] ∧ doneF L s (k + 1) = true ∧ t ≠ s := by
  unfold doneF accF at *
  simp only [Bool.or_eq_false_iff, decide_eq_false_iff_not] at hd
  have hk : pos L s ≤ k := by
    rcases Nat.lt_or_ge k (pos L s) with h | h
    · rw [pos_lo h ht] at hl; cases hl
    · exact h
  have hk' : k = pos L s := by omega
  refine ⟨?_, by simp; omega, ?_⟩
  · rw [if_neg (by rw [hd.1]; simp; omega), if_pos (.inr (by omega))]
    have h2 : (L.drop (pos L s))[0]? = some t := by rw [List.getElem?_drop, ← ht]; congr 1; omega
    rw [show k + 1 - pos L s = 0 + 1 by omega, take_one h2, hk']
    simp
  · rintro rfl
    rw [memB_t (List.mem_of_getElem? ht)] at hd
    cases hd.1
theorem acc_end_t {L : List ByteArray} {s : ByteArray} (hd : doneF L s L.length = true) : accF L s L.length = put L s := by
  unfold doneF accF at *
  cases hm : memB L s
  · simp only [hm, Bool.false_or, decide_eq_true_eq] at hd
    rw [if_neg (by simp; omega), put_f hm, List.take_of_length_le (l := L.drop (pos L s)) (i := L.length - pos L s) (by rw [List.length_drop]; omega)]
  · rw [if_pos (.inl rfl), put_t hm, List.take_length]
theorem acc_end_f {L : List ByteArray} {s : ByteArray} (hd : doneF L s L.length = false) : accF L s L.length ++ [s] = put L s := by
  unfold doneF accF at *
  simp only [Bool.or_eq_false_iff, decide_eq_false_iff_not] at hd
  rw [if_pos (.inr (by omega)), put_f hd.1]
  have := pos_le L s
  rw [show pos L s = L.length by omega]
  simp
theorem acc_start (L : List ByteArray) (s : ByteArray) : accF L s 0 = [] ∧ doneF L s 0 = memB L s := by
  unfold doneF accF; simp
theorem acc_len (L : List ByteArray) (s : ByteArray) (k : Nat) : (accF L s k).length ≤ k + 1 := by
  unfold accF
  split
  · rw [List.length_take]; omega
  · rename_i h
    have : pos L s < k := by omega
    simp only [List.length_append, List.length_cons, List.length_take]
    omega
end Go.Proofs.YtmofnmklodmkmaaGreatDoor
