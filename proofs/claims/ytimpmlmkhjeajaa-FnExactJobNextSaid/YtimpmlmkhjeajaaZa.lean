/- Texts joined: Math, Ord, Ord2, Acc, Bxi, Bxm, Jbm. -/
import Derived.Below
import Derived.Lib.Strings
import GoSem.Op.String

/- Names as lists of bytes: what a valid name is; plain mathematics, no program. -/
namespace Go.Proofs.Ytimpmlmkhjeajaa
open Go.RowKit

theorem hide {p : Prop} (h : p) : Hid p := h
theorem ret_bool {a b : Bool} (h : a = b) : Ending.returned (.bool a) = .returned (.bool b) := by rw [h]
theorem ret_int {k : IntKind} {a b : Int} (h : a = b) : Ending.returned (.int k a) = .returned (.int k b) := by rw [h]

/-- A small letter. -/
def ltr (c : UInt8) : Bool := 97 ≤ c && c ≤ 122
theorem ltr_iff (c : UInt8) : ltr c = true ↔ (97 : Int) ≤ (c.toNat : Int) ∧ (c.toNat : Int) ≤ 122 := by
  unfold ltr; simp [UInt8.le_iff_toNat_le]; omega
/-- A valid name. -/
def nvB (s : ByteArray) : Bool := decide (1 ≤ s.size) && decide (s.size ≤ 4) && s.data.toList.all ltr
theorem nvB_size {s : ByteArray} (h : nvB s = true) : 1 ≤ s.size ∧ s.size ≤ 4 := by
  unfold nvB at h; simp at h; omega
theorem nvB_of {s : ByteArray} (h1 : 1 ≤ s.size) (h4 : s.size ≤ 4) (ha : ∀ k (h : k < s.size), ltr s[k] = true) : nvB s = true := by
  unfold nvB
  simp only [decide_eq_true h1, decide_eq_true h4, Bool.true_and]
  rw [List.all_eq_true]
  intro x hx
  obtain ⟨k, hk, rfl⟩ := List.mem_iff_getElem.1 hx
  exact ha k (by simpa using hk)
theorem nvB_not {s : ByteArray} {k : Nat} (h : k < s.size) (hl : ltr s[k] = false) : nvB s = false := by
  unfold nvB
  have : s.data.toList.all ltr = false := by
    rw [List.all_eq_false]
    exact ⟨s[k], by exact List.mem_iff_getElem.2 ⟨k, by simpa using h, rfl⟩, by simp [hl]⟩
  simp [this]
theorem nvB_digit (s : ByteArray) : nvB (s ++ { data := #[49] }) = false := by
  unfold nvB
  have : (s ++ { data := #[49] } : ByteArray).data.toList.all ltr = false := by
    rw [ByteArray.data_append, Array.toList_append, List.all_append]
    have : (({ data := #[49] } : ByteArray).data.toList.all ltr) = false := by decide
    rw [this, Bool.and_false]
  rw [this, Bool.and_false]
theorem nvB_four (s : ByteArray) (h : 1 ≤ s.size) : nvB (s ++ { data := #[97, 97, 97, 97] }) = false := by
  unfold nvB
  have : ¬ (s ++ { data := #[97, 97, 97, 97] } : ByteArray).size ≤ 4 := by
    rw [ByteArray.size_append]; show ¬ s.size + 4 ≤ 4; omega
  rw [decide_eq_false this, Bool.and_false, Bool.false_and]
theorem nvB_first (s : ByteArray) (h : nvB s = true) : nvB (s.extract 0 1) = true := by
  have hz := nvB_size h
  have hsz : (s.extract 0 1).size = 1 := by rw [ByteArray.size_extract]; omega
  refine nvB_of (by omega) (by omega) (fun k hk => ?_)
  unfold nvB at h
  simp only [Bool.and_eq_true, List.all_eq_true] at h
  have e : (s.extract 0 1)[k] = s[0] := by
    have : k = 0 := by omega
    subst this
    rw [ByteArray.getElem_extract]
  rw [e]
  exact h.2 _ (List.mem_iff_getElem.2 ⟨0, by simp; omega, rfl⟩)
end Go.Proofs.Ytimpmlmkhjeajaa

/- Lists of names: order, validity, putting, dropping; plain mathematics. -/
namespace Go.Proofs.Ytimpmlmkhjeajaa
open Go.RowKit

def blt (a b : ByteArray) : Bool := Op.bytesLess a.toList b.toList
theorem less_irrefl : ∀ x : List UInt8, Op.bytesLess x x = false
  | [] => rfl
  | a :: x => by simp [Op.bytesLess, less_irrefl x]
theorem less_trans : ∀ x y z : List UInt8, Op.bytesLess x y = true → Op.bytesLess y z = true → Op.bytesLess x z = true
  | _, [], _, h, _ => by cases ‹List UInt8› <;> simp [Op.bytesLess] at h
  | _, _ :: _, [], _, h => by simp [Op.bytesLess] at h
  | [], _ :: _, _ :: _, _, _ => by simp [Op.bytesLess]
  | a :: x, b :: y, c :: z, h1, h2 => by
    simp only [Op.bytesLess, Bool.or_eq_true, decide_eq_true_eq, Bool.and_eq_true, beq_iff_eq] at h1 h2 ⊢
    rcases h1 with h1 | ⟨rfl, h1⟩
    · rcases h2 with h2 | ⟨rfl, h2⟩
      · exact .inl (UInt8.lt_trans h1 h2)
      · exact .inl h1
    · rcases h2 with h2 | ⟨rfl, h2⟩
      · exact .inl h2
      · exact .inr ⟨rfl, less_trans x y z h1 h2⟩
theorem less_tri : ∀ x y : List UInt8, Op.bytesLess x y = false → Op.bytesLess y x = false → x = y
  | [], [], _, _ => rfl
  | [], _ :: _, h, _ => by simp [Op.bytesLess] at h
  | _ :: _, [], _, h => by simp [Op.bytesLess] at h
  | a :: x, b :: y, h1, h2 => by
    simp only [Op.bytesLess, Bool.or_eq_false_iff, decide_eq_false_iff_not, Bool.and_eq_false_iff] at h1 h2
    have e : a = b := by
      have p1 := h1.1
      have p2 := h2.1
      rw [UInt8.lt_iff_toNat_lt] at p1 p2
      exact UInt8.toNat_inj.1 (by omega)
    subst e
    have q1 : Op.bytesLess x y = false := by simpa using h1.2
    have q2 : Op.bytesLess y x = false := by simpa using h2.2
    rw [less_tri x y q1 q2]
theorem toList_inj {a b : ByteArray} (h : a.toList = b.toList) : a = b := by
  rw [Lib.toList_data, Lib.toList_data] at h
  cases a; cases b
  exact congrArg ByteArray.mk (Array.toList_inj.1 h)
theorem blt_irrefl (a : ByteArray) : blt a a = false := less_irrefl _
theorem blt_trans {a b c : ByteArray} (h1 : blt a b = true) (h2 : blt b c = true) : blt a c = true := less_trans _ _ _ h1 h2
theorem blt_tri {a b : ByteArray} (h1 : blt a b = false) (h2 : blt b a = false) : a = b := toList_inj (less_tri _ _ h1 h2)
theorem blt_asymm {a b : ByteArray} (h : blt a b = true) : blt b a = false := by
  cases h2 : blt b a
  · rfl
  · have := blt_trans h h2; rw [blt_irrefl] at this; exact this.symm
theorem blt_ne {a b : ByteArray} (h : blt a b = true) : a ≠ b := by
  rintro rfl; rw [blt_irrefl] at h; cases h

def memB (L : List ByteArray) (s : ByteArray) : Bool := L.any fun t => decide (t = s)
theorem memB_iff {L : List ByteArray} {s : ByteArray} : memB L s = true ↔ s ∈ L := by simp [memB]
theorem memB_t {L : List ByteArray} {s : ByteArray} (h : s ∈ L) : memB L s = true := memB_iff.2 h
theorem memB_f {L : List ByteArray} {s : ByteArray} (h : s ∉ L) : memB L s = false := by rw [← Bool.not_eq_true, memB_iff]; exact h

/-- Ascending. -/
def Asc (L : List ByteArray) : Prop := L.Pairwise fun a b => blt a b = true
instance (L : List ByteArray) : Decidable (Asc L) := by unfold Asc; exact inferInstance
/-- Valid names. -/
def nsB (L : List ByteArray) : Bool := decide (L.length ≤ 10) && L.all nvB && decide (Asc L)
theorem nsB_iff {L : List ByteArray} : nsB L = true ↔ L.length ≤ 10 ∧ (∀ s ∈ L, nvB s = true) ∧ Asc L := by
  unfold nsB; simp [and_assoc]
theorem nsB_f {L : List ByteArray} (h : ¬(L.length ≤ 10 ∧ (∀ s ∈ L, nvB s = true) ∧ Asc L)) : nsB L = false := by
  rw [← Bool.not_eq_true, nsB_iff]; exact h

theorem asc_iff {L : List ByteArray} : Asc L ↔ ∀ k a b, L[k]? = some a → L[k + 1]? = some b → blt a b = true := by
  constructor
  · intro h k a b ha hb
    obtain ⟨h1, rfl⟩ := List.getElem?_eq_some_iff.1 ha
    obtain ⟨h2, rfl⟩ := List.getElem?_eq_some_iff.1 hb
    exact List.pairwise_iff_getElem.1 h k (k + 1) h1 h2 (by omega)
  · intro h
    have key : ∀ d i, (hi : i + d + 1 < L.length) → blt (L[i]'(by omega)) L[i + d + 1] = true := by
      intro d
      induction d with
      | zero => exact fun i hi => h i _ _ (List.getElem?_eq_getElem (by omega)) (List.getElem?_eq_getElem hi)
      | succ d ih =>
        intro i hi
        exact blt_trans (ih i (by omega)) (h (i + d + 1) _ _ (List.getElem?_eq_getElem (by omega)) (List.getElem?_eq_getElem (by omega)))
    refine List.pairwise_iff_getElem.2 fun i j hi hj hij => ?_
    obtain ⟨d, rfl⟩ : ∃ d, j = i + d + 1 := ⟨j - i - 1, by omega⟩
    exact key d i hj
theorem Asc.lt_at {L : List ByteArray} (h : Asc L) {i j : Nat} {a b : ByteArray} (ha : L[i]? = some a) (hb : L[j]? = some b) (hij : i < j) : blt a b = true := by
  obtain ⟨h1, rfl⟩ := List.getElem?_eq_some_iff.1 ha
  obtain ⟨h2, rfl⟩ := List.getElem?_eq_some_iff.1 hb
  exact List.pairwise_iff_getElem.1 h i j h1 h2 hij
theorem Asc.nodup {L : List ByteArray} (h : Asc L) : L.Nodup := by
  unfold List.Nodup
  exact List.Pairwise.imp (fun h => blt_ne h) h

/-- Where s has to be put: how many of the first ones are less. -/
def pos (L : List ByteArray) (s : ByteArray) : Nat := (L.takeWhile fun t => blt t s).length
theorem pos_le (L : List ByteArray) (s : ByteArray) : pos L s ≤ L.length := by
  unfold pos; exact (List.takeWhile_prefix _).length_le
theorem pos_lo {L : List ByteArray} {s t : ByteArray} {j : Nat} (hj : j < pos L s) (ht : L[j]? = some t) : blt t s = true := by
  unfold pos at hj
  have hm : (L.takeWhile fun t => blt t s)[j]? = some t := by
    have hp := List.takeWhile_prefix (l := L) (fun t => blt t s)
    obtain ⟨r, hr⟩ := hp
    rw [← hr, List.getElem?_append_left hj] at ht
    exact ht
  have := List.mem_of_getElem? hm
  have := List.all_takeWhile (p := fun t => blt t s) (l := L)
  rw [List.all_eq_true] at this
  exact this t ‹_›
theorem pos_at : ∀ {L : List ByteArray} {s t : ByteArray}, L[pos L s]? = some t → blt t s = false
  | [], s, t, h => by simp at h
  | a :: L, s, t, h => by
    unfold pos at h
    rw [List.takeWhile_cons] at h
    by_cases ha : blt a s = true
    · rw [if_pos ha] at h
      exact pos_at (L := L) (by simpa [pos] using h)
    · rw [if_neg ha] at h
      simp at h
      subst h
      simpa using ha
theorem pos_hi {L : List ByteArray} {s t : ByteArray} {j : Nat} (ha : Asc L) (hj : pos L s ≤ j) (ht : L[j]? = some t) : blt t s = false := by
  have hl : pos L s < L.length := by have := (List.getElem?_eq_some_iff.1 ht).1; omega
  have h0 := pos_at (List.getElem?_eq_getElem hl)
  rcases Nat.eq_or_lt_of_le hj with e | h
  · subst e; exact pos_at ht
  · have h1 := ha.lt_at (List.getElem?_eq_getElem hl) ht h
    cases h2 : blt t s
    · rfl
    · rw [blt_trans h1 h2] at h0; exact h0
theorem mem_pos {L : List ByteArray} {s : ByteArray} (ha : Asc L) : s ∈ L ↔ L[pos L s]? = some s := by
  constructor
  · intro h
    obtain ⟨j, hj, e⟩ := List.mem_iff_getElem.1 h
    have hs : L[j]? = some s := by rw [List.getElem?_eq_getElem hj, e]
    have h1 : pos L s ≤ j := by
      rcases Nat.lt_or_ge j (pos L s) with h | h
      · have := pos_lo h hs; rw [blt_irrefl] at this; cases this
      · exact h
    rcases Nat.eq_or_lt_of_le h1 with e | h
    · rw [e]; exact hs
    · have hl : pos L s < L.length := by omega
      have h0 := pos_at (List.getElem?_eq_getElem hl)
      rw [ha.lt_at (List.getElem?_eq_getElem hl) hs h] at h0
      cases h0
  · exact fun h => List.mem_of_getElem? h

/-- s put at its place, if it is not there. -/
def put (L : List ByteArray) (s : ByteArray) : List ByteArray := if memB L s = true then L else L.take (pos L s) ++ s :: L.drop (pos L s)
theorem put_t {L : List ByteArray} {s : ByteArray} (h : memB L s = true) : put L s = L := by unfold put; rw [if_pos h]
theorem put_f {L : List ByteArray} {s : ByteArray} (h : memB L s = false) : put L s = L.take (pos L s) ++ s :: L.drop (pos L s) := by unfold put; rw [h]; rfl
/-- NamesPut, NamesDrop. -/
def putM (L : List ByteArray) (s : ByteArray) : Option (List ByteArray) := if (nsB L && nvB s && nsB (put L s)) = true then some (put L s) else none
def dropAt (L : List ByteArray) (k : Nat) : List ByteArray := L.take k ++ L.drop (k + 1)
def dropM (L : List ByteArray) (s : ByteArray) : Option (List ByteArray) := if (nsB L && memB L s) = true then some (dropAt L (pos L s)) else none
theorem putM_1 {L : List ByteArray} {s : ByteArray} (h : nsB L = false) : putM L s = none := by unfold putM; rw [h]; rfl
theorem putM_2 {L : List ByteArray} {s : ByteArray} (h : nvB s = false) : putM L s = none := by unfold putM; rw [h, Bool.and_false]; rfl
theorem putM_3 {L : List ByteArray} {s : ByteArray} (h : nsB (put L s) = false) : putM L s = none := by unfold putM; rw [h, Bool.and_false]; rfl
theorem putM_t {L : List ByteArray} {s : ByteArray} (h1 : nsB L = true) (h2 : nvB s = true) (h3 : nsB (put L s) = true) : putM L s = some (put L s) := by unfold putM; rw [h1, h2, h3]; rfl
theorem dropM_1 {L : List ByteArray} {s : ByteArray} (h : nsB L = false) : dropM L s = none := by unfold dropM; rw [h]; rfl
theorem dropM_2 {L : List ByteArray} {s : ByteArray} (h : memB L s = false) : dropM L s = none := by unfold dropM; rw [h, Bool.and_false]; rfl
theorem dropM_t {L : List ByteArray} {s : ByteArray} (h1 : nsB L = true) (h2 : memB L s = true) : dropM L s = some (dropAt L (pos L s)) := by unfold dropM; rw [h1, h2]; rfl
theorem nsB_asc {L : List ByteArray} (h : nsB L = true) : Asc L := (nsB_iff.1 h).2.2
theorem nsB_le {L : List ByteArray} (h : nsB L = true) : L.length ≤ 10 := (nsB_iff.1 h).1
theorem nsB_nv {L : List ByteArray} (h : nsB L = true) {s : ByteArray} (hs : s ∈ L) : nvB s = true := (nsB_iff.1 h).2.1 s hs
theorem put_mem {L : List ByteArray} {s t : ByteArray} : t ∈ put L s ↔ t = s ∨ t ∈ L := by
  cases hm : memB L s
  · rw [put_f hm, List.mem_append, List.mem_cons]
    constructor
    · rintro (h | h | h)
      · exact .inr (List.mem_of_mem_take h)
      · exact .inl h
      · exact .inr (List.mem_of_mem_drop h)
    · rintro (h | h)
      · exact .inr (.inl h)
      · rw [← List.take_append_drop (pos L s) L, List.mem_append] at h
        rcases h with h | h
        · exact .inl h
        · exact .inr (.inr h)
  · rw [put_t hm]
    constructor
    · exact .inr
    · rintro (rfl | h)
      · exact memB_iff.1 hm
      · exact h
theorem put_len (L : List ByteArray) (s : ByteArray) : (put L s).length ≤ L.length + 1 := by
  cases hm : memB L s
  · rw [put_f hm]; have := pos_le L s; simp; omega
  · rw [put_t hm]; omega
theorem put_asc {L : List ByteArray} {s : ByteArray} (ha : Asc L) : Asc (put L s) := by
  cases hm : memB L s
  · rw [put_f hm]
    unfold Asc
    rw [List.pairwise_append, List.pairwise_cons]
    have hlo : ∀ t ∈ L.take (pos L s), blt t s = true := fun t ht => by
      obtain ⟨j, hj, rfl⟩ := List.mem_iff_getElem.1 ht
      have hj2 : j < pos L s := by rw [List.length_take] at hj; omega
      rw [List.getElem_take]
      exact pos_lo hj2 (List.getElem?_eq_getElem _)
    have hhi : ∀ t ∈ L.drop (pos L s), blt s t = true := fun t ht => by
      obtain ⟨j, hj, rfl⟩ := List.mem_iff_getElem.1 ht
      rw [List.getElem_drop]
      have h1 := pos_hi (s := s) (j := pos L s + j) ha (by omega) (List.getElem?_eq_getElem (by rw [List.length_drop] at hj; omega))
      cases h2 : blt s (L[pos L s + j]'(by rw [List.length_drop] at hj; omega))
      · have e := blt_tri h1 h2
        have : s ∈ L := e ▸ List.getElem_mem _
        rw [memB_t this] at hm; cases hm
      · rfl
    refine ⟨ha.sublist (List.take_sublist _ _), ⟨hhi, ha.sublist (List.drop_sublist _ _)⟩, fun t ht u hu => ?_⟩
    rcases List.mem_cons.1 hu with rfl | hu
    · exact hlo t ht
    · exact blt_trans (hlo t ht) (hhi u hu)
  · rw [put_t hm]; exact ha
theorem nsB_put {L : List ByteArray} {s : ByteArray} (h1 : nsB L = true) (h2 : nvB s = true) (h3 : (put L s).length ≤ 10) : nsB (put L s) = true := by
  rw [nsB_iff]
  refine ⟨h3, fun t ht => ?_, put_asc (nsB_asc h1)⟩
  rcases put_mem.1 ht with rfl | h
  · exact h2
  · exact nsB_nv h1 h

/-- What has been collected behind k rounds, and whether s is in it. -/
def doneF (L : List ByteArray) (s : ByteArray) (k : Nat) : Bool := memB L s || decide (pos L s < k)
def accF (L : List ByteArray) (s : ByteArray) (k : Nat) : List ByteArray := if memB L s = true ∨ k ≤ pos L s then L.take k else L.take (pos L s) ++ s :: (L.drop (pos L s)).take (k - pos L s)
theorem take_one {L : List ByteArray} {k : Nat} {t : ByteArray} (ht : L[k]? = some t) : L.take (k + 1) = L.take k ++ [t] := by
  obtain ⟨h, rfl⟩ := List.getElem?_eq_some_iff.1 ht
  rw [List.take_succ_eq_append_getElem h]
theorem acc_done {L : List ByteArray} {s t : ByteArray} {k : Nat} (hd : doneF L s k = true) (ht : L[k]? = some t) : accF L s (k + 1) = accF L s k ++ [t] ∧ doneF L s (k + 1) = true := by
  unfold doneF accF at *
  cases hm : memB L s
  · simp only [hm, Bool.false_or, decide_eq_true_eq, Bool.false_eq_true, false_or] at hd ⊢
    rw [if_neg (by omega), if_neg (by omega)]
    refine ⟨?_, by omega⟩
    have h2 : (L.drop (pos L s))[k - pos L s]? = some t := by rw [List.getElem?_drop, ← ht]; congr 1; omega
    rw [show k + 1 - pos L s = k - pos L s + 1 by omega, take_one h2]
    simp
  · simp [take_one ht]
theorem acc_lo {L : List ByteArray} {s t : ByteArray} {k : Nat} (ha : Asc L) (hd : doneF L s k = false) (ht : L[k]? = some t) (hl : blt t s = true) : accF L s (k + 1) = accF L s k ++ [t] ∧ doneF L s (k + 1) = false := by
  unfold doneF accF at *
  simp only [Bool.or_eq_false_iff, decide_eq_false_iff_not] at hd
  have hk : k < pos L s := by
    rcases Nat.lt_or_ge k (pos L s) with h | h
    · exact h
    · rw [pos_hi ha h ht] at hl; cases hl
  rw [if_pos (.inr (by omega)), if_pos (.inr (by omega)), take_one ht, hd.1]
  exact ⟨rfl, by simp; omega⟩
theorem acc_at {L : List ByteArray} {s t : ByteArray} {k : Nat} (hd : doneF L s k = false) (ht : L[k]? = some t) (hl : blt t s = false) : accF L s (k + 1) = accF L s k ++ [s] ++ [t] ∧ doneF L s (k + 1) = true ∧ t ≠ s := by
  unfold doneF accF at *
  simp only [Bool.or_eq_false_iff, decide_eq_false_iff_not] at hd
  have hk : pos L s ≤ k := by
    rcases Nat.lt_or_ge k (pos L s) with h | h
    · rw [pos_lo h ht] at hl; cases hl
    · exact h
  have hk' : k = pos L s := by omega
  refine ⟨?_, by simp; omega, ?_⟩
  · rw [if_neg (by rw [hd.1]; simp; omega), if_pos (.inr (by omega))]
    have h2 : (L.drop (pos L s))[0]? = some t := by rw [List.getElem?_drop, ← ht]; congr 1; omega
    rw [show k + 1 - pos L s = 0 + 1 by omega, take_one h2, hk']
    simp
  · rintro rfl
    rw [memB_t (List.mem_of_getElem? ht)] at hd
    cases hd.1
theorem acc_end_t {L : List ByteArray} {s : ByteArray} (hd : doneF L s L.length = true) : accF L s L.length = put L s := by
  unfold doneF accF at *
  cases hm : memB L s
  · simp only [hm, Bool.false_or, decide_eq_true_eq] at hd
    rw [if_neg (by simp; omega), put_f hm, List.take_of_length_le (l := L.drop (pos L s)) (i := L.length - pos L s) (by rw [List.length_drop]; omega)]
  · rw [if_pos (.inl rfl), put_t hm, List.take_length]
theorem acc_end_f {L : List ByteArray} {s : ByteArray} (hd : doneF L s L.length = false) : accF L s L.length ++ [s] = put L s := by
  unfold doneF accF at *
  simp only [Bool.or_eq_false_iff, decide_eq_false_iff_not] at hd
  rw [if_pos (.inr (by omega)), put_f hd.1]
  have := pos_le L s
  rw [show pos L s = L.length by omega]
  simp
theorem acc_start (L : List ByteArray) (s : ByteArray) : accF L s 0 = [] ∧ doneF L s 0 = memB L s := by
  unfold doneF accF; simp
theorem acc_len (L : List ByteArray) (s : ByteArray) (k : Nat) : (accF L s k).length ≤ k + 1 := by
  unfold accF
  split
  · rw [List.length_take]; omega
  · rename_i h
    have : pos L s < k := by omega
    simp only [List.length_append, List.length_cons, List.length_take]
    omega
end Go.Proofs.Ytimpmlmkhjeajaa

/- What putting and dropping have to do with each other; plain mathematics. -/
set_option linter.unusedVariables false
set_option linter.unusedSimpArgs false
namespace Go.Proofs.Ytimpmlmkhjeajaa
open Go.RowKit

theorem putM_some {L M : List ByteArray} {s : ByteArray} (h : putM L s = some M) : M = put L s ∧ nsB L = true ∧ nvB s = true ∧ nsB M = true := by
  unfold putM at h
  split at h
  · rename_i hh
    simp only [Bool.and_eq_true] at hh
    injection h with h
    subst h
    exact ⟨rfl, hh.1.1, hh.1.2, hh.2⟩
  · cases h
theorem dropM_some {L M : List ByteArray} {s : ByteArray} (h : dropM L s = some M) : M = dropAt L (pos L s) ∧ nsB L = true ∧ memB L s = true := by
  unfold dropM at h
  split at h
  · rename_i hh
    simp only [Bool.and_eq_true] at hh
    injection h with h
    subst h
    exact ⟨rfl, hh.1, hh.2⟩
  · cases h
theorem putM_len {L M : List ByteArray} {s : ByteArray} (h : putM L s = some M) : M.length ≤ 11 := by have := nsB_le (putM_some h).2.2.2; omega
theorem dropAt_sub (L : List ByteArray) (k : Nat) : (dropAt L k).Sublist L := by
  unfold dropAt
  have h2 : (L.drop (k + 1)).Sublist (L.drop k) := by
    rw [show L.drop (k + 1) = (L.drop k).drop 1 by rw [List.drop_drop]]
    exact List.drop_sublist _ _
  have h3 := List.Sublist.append (List.Sublist.refl (L.take k)) h2
  rw [List.take_append_drop] at h3
  exact h3
theorem nsB_sub {L M : List ByteArray} (h : nsB L = true) (hs : M.Sublist L) : nsB M = true := by
  rw [nsB_iff] at h ⊢
  exact ⟨Nat.le_trans hs.length_le h.1, fun s hm => h.2.1 s (hs.subset hm), h.2.2.sublist hs⟩
theorem dropM_nsB {L M : List ByteArray} {s : ByteArray} (h : dropM L s = some M) : nsB M = true := by
  obtain ⟨rfl, h1, _⟩ := dropM_some h
  exact nsB_sub h1 (dropAt_sub _ _)
theorem dropM_len {L M : List ByteArray} {s : ByteArray} (h : dropM L s = some M) : M.length ≤ 11 := by have := nsB_le (dropM_nsB h); omega

theorem Asc.uniq {L : List ByteArray} (ha : Asc L) {i j : Nat} {s : ByteArray} (hi : L[i]? = some s) (hj : L[j]? = some s) : i = j := by
  rcases Nat.lt_trichotomy i j with h | h | h
  · have := ha.lt_at hi hj h; rw [blt_irrefl] at this; cases this
  · exact h
  · have := ha.lt_at hj hi h; rw [blt_irrefl] at this; cases this
theorem asc_pos {L : List ByteArray} (ha : Asc L) {i : Nat} {s : ByteArray} (hi : L[i]? = some s) : pos L s = i :=
  ha.uniq ((mem_pos ha).1 (List.mem_of_getElem? hi)) hi
theorem split_at {L : List ByteArray} {i : Nat} {s : ByteArray} (h : L[i]? = some s) : L = L.take i ++ s :: L.drop (i + 1) := by
  obtain ⟨hi, rfl⟩ := List.getElem?_eq_some_iff.1 h
  conv => lhs; rw [← List.take_append_drop i L]
  rw [List.drop_eq_getElem_cons hi]
theorem asc_dropAt {L : List ByteArray} (ha : Asc L) (k : Nat) : Asc (dropAt L k) := ha.sublist (dropAt_sub L k)
theorem not_mem_dropAt {L : List ByteArray} (ha : Asc L) {i : Nat} {s : ByteArray} (h : L[i]? = some s) : s ∉ dropAt L i := by
  unfold dropAt
  intro hm
  rcases List.mem_append.1 hm with h1 | h1
  · obtain ⟨j, hj, e⟩ := List.mem_iff_getElem.1 h1
    rw [List.getElem_take] at e
    have hj2 : j < i := by rw [List.length_take] at hj; omega
    have := ha.lt_at (i := j) (j := i) (a := s) (b := s) (by rw [← e]; exact List.getElem?_eq_getElem _) h hj2
    rw [blt_irrefl] at this; cases this
  · obtain ⟨j, hj, e⟩ := List.mem_iff_getElem.1 h1
    rw [List.getElem_drop] at e
    have := ha.lt_at (i := i) (j := i + 1 + j) (a := s) (b := s) h (by rw [← e]; exact List.getElem?_eq_getElem _) (by omega)
    rw [blt_irrefl] at this; cases this
theorem len_dropAt {L : List ByteArray} {i : Nat} (h : i < L.length) : (dropAt L i).length + 1 = L.length := by unfold dropAt; simp; omega
/-- The names but s. -/
def filt (L : List ByteArray) (s : ByteArray) : List ByteArray := L.filter fun t => decide (t ≠ s)
theorem filt_not {L : List ByteArray} {s : ByteArray} (h : s ∉ L) : filt L s = L := by
  unfold filt
  rw [List.filter_eq_self]
  intro t ht
  simp only [decide_eq_true_eq]
  rintro rfl; exact h ht
theorem filt_at {L : List ByteArray} (ha : Asc L) {i : Nat} {s : ByteArray} (h : L[i]? = some s) : filt L s = dropAt L i := by
  have hn := not_mem_dropAt ha h
  have e := split_at h
  have : filt L s = filt (dropAt L i) s := by
    conv => lhs; rw [e]
    unfold filt dropAt
    rw [List.filter_append, List.filter_append, List.filter_cons]
    simp
  rw [this, filt_not hn]
/-- Putting, then dropping. -/
theorem put_at {L : List ByteArray} {s : ByteArray} (hm : memB L s = false) : (put L s)[pos L s]? = some s ∧ dropAt (put L s) (pos L s) = L := by
  rw [put_f hm]
  have hp := pos_le L s
  have hlen : (L.take (pos L s)).length = pos L s := by rw [List.length_take]; omega
  constructor
  · rw [List.getElem?_append_right (by omega), hlen, Nat.sub_self]; rfl
  · unfold dropAt
    rw [List.take_append_of_le_length (by omega), List.take_of_length_le (by omega)]
    have : (L.take (pos L s) ++ s :: L.drop (pos L s)).drop (pos L s + 1) = L.drop (pos L s) := by
      rw [List.drop_append, List.drop_of_length_le (by omega), hlen, show pos L s + 1 - pos L s = 1 by omega]
      rfl
    rw [this, List.take_append_drop]
theorem put_drop {L : List ByteArray} {s : ByteArray} (ha : Asc L) (hm : memB L s = false) : dropAt (put L s) (pos (put L s) s) = L := by
  have h := put_at hm
  rw [asc_pos (put_asc ha) h.1]; exact h.2
/-- Dropping, then putting. -/
theorem drop_put {L : List ByteArray} {s : ByteArray} (ha : Asc L) (hs : s ∈ L) : memB (dropAt L (pos L s)) s = false ∧ put (dropAt L (pos L s)) s = L := by
  have hi := (mem_pos ha).1 hs
  have hn := not_mem_dropAt ha hi
  have hm := memB_f hn
  refine ⟨hm, ?_⟩
  have hl := (List.getElem?_eq_some_iff.1 hi).1
  have hp : pos (dropAt L (pos L s)) s = pos L s := by
    generalize hk : pos L s = k at *
    have ha2 := asc_dropAt ha k
    have hlt : ∀ t, t ∈ L.take k → blt t s = true := fun t ht => by
      obtain ⟨j, hj, rfl⟩ := List.mem_iff_getElem.1 ht
      have hj2 : j < k := by rw [List.length_take] at hj; omega
      rw [List.getElem_take]
      exact pos_lo (by omega) (List.getElem?_eq_getElem _)
    unfold pos dropAt
    rw [List.takeWhile_append_of_pos hlt]
    have h0 : (L.drop (k + 1)).takeWhile (fun t => blt t s) = [] := by
      rcases hd : L.drop (k + 1) with _ | ⟨t, r⟩
      · rfl
      · have ht : L[k + 1]? = some t := by
          have : (L.drop (k + 1))[0]? = some t := by rw [hd]; rfl
          rw [List.getElem?_drop] at this; exact this
        have := blt_asymm (ha.lt_at hi ht (by omega))
        rw [List.takeWhile_cons, this]; rfl
    rw [h0, List.append_nil, List.length_take]; omega
  rw [put_f hm, hp]
  generalize pos L s = k at *
  unfold dropAt
  have hlen : (L.take k).length = k := by rw [List.length_take]; omega
  rw [List.take_append_of_le_length (by omega), List.take_of_length_le (by omega), List.drop_append, List.drop_of_length_le (by omega), hlen, Nat.sub_self, List.drop_zero, List.nil_append]
  exact (split_at hi).symm
theorem putM_again {L M : List ByteArray} {s t : ByteArray} (h : putM L s = some M) (ht : t ∈ M) : putM M t = some M := by
  obtain ⟨rfl, h1, h2, h3⟩ := putM_some h
  have e : put (put L s) t = put L s := put_t (memB_t ht)
  rw [putM_t h3 (nsB_nv h3 ht) (by rw [e]; exact h3), e]
theorem putM_drop {L M : List ByteArray} {s : ByteArray} (h : putM L s = some M) : ∃ K, dropM M s = some K ∧ (s ∉ L → K = L) := by
  obtain ⟨rfl, h1, h2, h3⟩ := putM_some h
  refine ⟨_, dropM_t h3 (memB_t (put_mem.2 (.inl rfl))), fun hs => put_drop (nsB_asc h1) (memB_f hs)⟩
theorem dropM_facts {L M : List ByteArray} {s : ByteArray} (h : dropM L s = some M) : nsB M = true ∧ M.length + 1 = L.length ∧ s ∉ M ∧ dropM M s = none ∧ s ∈ L ∧ putM M s = some L := by
  have hn := dropM_nsB h
  obtain ⟨rfl, h1, h2⟩ := dropM_some h
  have hi := (mem_pos (nsB_asc h1)).1 (memB_iff.1 h2)
  have hne := not_mem_dropAt (nsB_asc h1) hi
  have hdp := drop_put (nsB_asc h1) (memB_iff.1 h2)
  refine ⟨hn, len_dropAt (List.getElem?_eq_some_iff.1 hi).1, hne, dropM_2 (memB_f hne), memB_iff.1 h2, ?_⟩
  rw [putM_t hn (nsB_nv h1 (memB_iff.1 h2)) (by rw [hdp.2]; exact h1), hdp.2]
theorem dropM_one {L : List ByteArray} {s : ByteArray} (h : nsB L = true) (hs : s ∈ L) : ∃ K, dropM L s = some K := ⟨_, dropM_t h (memB_t hs)⟩
theorem putM_others {L M : List ByteArray} {s : ByteArray} (h : putM L s = some M) : filt L s = filt M s ∧ M.length = (filt M s).length + 1 := by
  obtain ⟨rfl, h1, h2, h3⟩ := putM_some h
  have ha := nsB_asc h1
  cases hm : memB L s
  · have h := put_at hm
    have hf := filt_at (put_asc ha) h.1
    rw [hf, h.2]
    have hs : s ∉ L := fun hs => by rw [memB_t hs] at hm; cases hm
    refine ⟨filt_not hs, ?_⟩
    have := len_dropAt (List.getElem?_eq_some_iff.1 h.1).1
    rw [h.2] at this; omega
  · rw [put_t hm]
    have hi := (mem_pos ha).1 (memB_iff.1 hm)
    refine ⟨rfl, ?_⟩
    rw [filt_at ha hi]
    have := len_dropAt (List.getElem?_eq_some_iff.1 hi).1
    omega
theorem nsB_dropAt {L : List ByteArray} (h : nsB L = true) (k : Nat) : nsB (dropAt L k) = true := nsB_sub h (dropAt_sub L k)
theorem nsB_twice {L : List ByteArray} {k : Nat} (hk : k < L.length) : nsB (L.take (k + 1) ++ L.drop k) = false := by
  refine nsB_f fun h => ?_
  have hl : (L.take (k + 1)).length = k + 1 := by rw [List.length_take]; omega
  have h1 : (L.take (k + 1) ++ L.drop k)[k]? = some L[k] := by
    rw [List.getElem?_append_left (by omega), List.getElem?_take, if_pos (by omega), List.getElem?_eq_getElem hk]
  have h2 : (L.take (k + 1) ++ L.drop k)[k + 1]? = some L[k] := by
    rw [List.getElem?_append_right (by omega), hl, Nat.sub_self, List.getElem?_drop, Nat.add_zero, List.getElem?_eq_getElem hk]
  have := asc_iff.1 h.2.2 k _ _ h1 h2
  rw [blt_irrefl] at this
  cases this
end Go.Proofs.Ytimpmlmkhjeajaa

/- Accounts: who follows whom; plain mathematics. -/
namespace Go.Proofs.Ytimpmlmkhjeajaa
open Go.RowKit

/-- An account: its name, its followers. -/
abbrev Acc := ByteArray × List ByteArray
def accB (a : Acc) : Bool := nvB a.1 && nsB a.2 && !memB a.2 a.1
def nms (X : List Acc) : List ByteArray := X.map (·.1)
/-- Valid accounts. -/
def asB (X : List Acc) : Bool := decide (X.length ≤ 6) && X.all accB && decide (Asc (nms X))
theorem accB_iff {a : Acc} : accB a = true ↔ nvB a.1 = true ∧ nsB a.2 = true ∧ a.1 ∉ a.2 := by
  unfold accB
  rw [Bool.and_eq_true, Bool.and_eq_true, Bool.not_eq_true', ← Bool.not_eq_true, memB_iff]
  exact ⟨fun h => ⟨h.1.1, h.1.2, h.2⟩, fun h => ⟨⟨h.1, h.2.1⟩, h.2.2⟩⟩
theorem asB_iff {X : List Acc} : asB X = true ↔ X.length ≤ 6 ∧ (∀ a ∈ X, accB a = true) ∧ Asc (nms X) := by
  unfold asB; simp [and_assoc]
theorem asB_f {X : List Acc} (h : ¬(X.length ≤ 6 ∧ (∀ a ∈ X, accB a = true) ∧ Asc (nms X))) : asB X = false := by
  rw [← Bool.not_eq_true, asB_iff]; exact h
theorem asB_len {X : List Acc} (h : 6 < X.length) : asB X = false := asB_f fun hh => by omega
theorem asB_bad {X : List Acc} {k : Nat} {a : Acc} (ha : X[k]? = some a) (h : accB a = false) : asB X = false :=
  asB_f fun hh => by rw [hh.2.1 a (List.mem_of_getElem? ha)] at h; cases h
theorem nms_at {X : List Acc} {k : Nat} {a : Acc} (h : X[k]? = some a) : (nms X)[k]? = some a.1 := by unfold nms; rw [List.getElem?_map, h]; rfl
theorem nms_len (X : List Acc) : (nms X).length = X.length := List.length_map _
theorem asB_turn {X : List Acc} {k : Nat} {a b : Acc} (ha : X[k]? = some a) (hb : X[k + 1]? = some b) (h : blt a.1 b.1 = false) : asB X = false :=
  asB_f fun hh => by rw [asc_iff.1 hh.2.2 k a.1 b.1 (nms_at ha) (nms_at hb)] at h; cases h
theorem asB_6 {X : List Acc} (h : asB X = true) : X.length ≤ 6 := (asB_iff.1 h).1
theorem asB_acc {X : List Acc} (h : asB X = true) {a : Acc} (ha : a ∈ X) : nvB a.1 = true ∧ nsB a.2 = true ∧ a.1 ∉ a.2 := accB_iff.1 ((asB_iff.1 h).2.1 a ha)
theorem asB_asc {X : List Acc} (h : asB X = true) : Asc (nms X) := (asB_iff.1 h).2.2
/-- The first k accounts are valid and ascend. -/
def AUpto (X : List Acc) (k : Nat) : Prop := ∀ j a, j < k → X[j]? = some a → accB a = true ∧ ∀ b, j + 1 < k → X[j + 1]? = some b → blt a.1 b.1 = true
theorem AUpto.zero (X : List Acc) : AUpto X 0 := fun j _ h => absurd h (by omega)
theorem AUpto.one {X : List Acc} {a : Acc} (ha : X[0]? = some a) (h : accB a = true) : AUpto X 1 := fun j t hj ht => by
  obtain rfl : j = 0 := by omega
  rw [ha] at ht; cases ht
  exact ⟨h, fun _ hh => absurd hh (by omega)⟩
theorem AUpto.more {X : List Acc} {k : Nat} {a b : Acc} (hu : AUpto X (k + 1)) (ha : X[k]? = some a) (hb : X[k + 1]? = some b) (h : accB b = true) (hl : blt a.1 b.1 = true) : AUpto X (k + 2) := fun j t hj ht => by
  by_cases e : j = k + 1
  · subst e; rw [hb] at ht; cases ht; exact ⟨h, fun _ hh => absurd hh (by omega)⟩
  · refine ⟨(hu j t (by omega) ht).1, fun u hju hu2 => ?_⟩
    by_cases e2 : j = k
    · subst e2; rw [ha] at ht; rw [hb] at hu2; cases ht; cases hu2; exact hl
    · exact (hu j t (by omega) ht).2 u (by omega) hu2
theorem AUpto.all {X : List Acc} (h : AUpto X X.length) (hl : X.length ≤ 6) : asB X = true := by
  rw [asB_iff]
  refine ⟨hl, fun s hs => ?_, asc_iff.2 fun k a b ha hb => ?_⟩
  · obtain ⟨j, hj, rfl⟩ := List.mem_iff_getElem.1 hs
    exact (h j _ hj (List.getElem?_eq_getElem hj)).1
  · have h1 := (List.getElem?_eq_some_iff.1 hb).1
    rw [nms_len] at h1
    have e1 := nms_at (List.getElem?_eq_getElem (l := X) (i := k) (by omega))
    have e2 := nms_at (List.getElem?_eq_getElem (l := X) (i := k + 1) (by omega))
    rw [e1] at ha; rw [e2] at hb; cases ha; cases hb
    exact (h k _ (by omega) (List.getElem?_eq_getElem (by omega))).2 _ h1 (List.getElem?_eq_getElem h1)

/-- The followers of an account; those of whom a name is a follower. -/
def fol (X : List Acc) (s : ByteArray) : List ByteArray := ((X.find? fun a => decide (a.1 = s)).map (·.2)).getD []
def folM (X : List Acc) (s : ByteArray) : List ByteArray := if asB X = true then fol X s else []
def byF (X : List Acc) (s : ByteArray) : List ByteArray := (X.filter fun a => memB a.2 s).map (·.1)
def byM (X : List Acc) (s : ByteArray) : List ByteArray := if asB X = true then byF X s else []
def setF (X : List Acc) (s : ByteArray) (F : List ByteArray) : List Acc := X.map fun a => if a.1 = s then (a.1, F) else a
def followM (X : List Acc) (who s : ByteArray) : Option (List Acc) := if (asB X && memB (nms X) s && !decide (who = s)) = true then (putM (fol X s) who).map (setF X s) else none
def unfollowM (X : List Acc) (who s : ByteArray) : Option (List Acc) := if (asB X && memB (nms X) s) = true then (dropM (fol X s) who).map (setF X s) else none

theorem folM_t {X : List Acc} {s : ByteArray} (h : asB X = true) : folM X s = fol X s := by unfold folM; rw [if_pos h]
theorem folM_f {X : List Acc} {s : ByteArray} (h : asB X = false) : folM X s = [] := by unfold folM; rw [h]; rfl
theorem byM_t {X : List Acc} {s : ByteArray} (h : asB X = true) : byM X s = byF X s := by unfold byM; rw [if_pos h]
theorem byM_f {X : List Acc} {s : ByteArray} (h : asB X = false) : byM X s = [] := by unfold byM; rw [h]; rfl
theorem follow_1 {X : List Acc} {who s : ByteArray} (h : asB X = false) : followM X who s = none := by unfold followM; rw [h]; rfl
theorem follow_2 {X : List Acc} {who s : ByteArray} (h : memB (nms X) s = false) : followM X who s = none := by unfold followM; rw [h, Bool.and_false]; rfl
theorem follow_3 (X : List Acc) (s : ByteArray) : followM X s s = none := by unfold followM; simp
theorem follow_4 {X : List Acc} {who s : ByteArray} (h : putM (fol X s) who = none) : followM X who s = none := by unfold followM; rw [h]; split <;> rfl
theorem follow_t {X : List Acc} {who s : ByteArray} {F : List ByteArray} (h1 : asB X = true) (h2 : memB (nms X) s = true) (h3 : who ≠ s) (h4 : putM (fol X s) who = some F) : followM X who s = some (setF X s F) := by
  unfold followM; rw [h1, h2, h4]; simp [h3]
theorem unfollow_1 {X : List Acc} {who s : ByteArray} (h : asB X = false) : unfollowM X who s = none := by unfold unfollowM; rw [h]; rfl
theorem unfollow_2 {X : List Acc} {who s : ByteArray} (h : memB (nms X) s = false) : unfollowM X who s = none := by unfold unfollowM; rw [h, Bool.and_false]; rfl
theorem unfollow_4 {X : List Acc} {who s : ByteArray} (h : dropM (fol X s) who = none) : unfollowM X who s = none := by unfold unfollowM; rw [h]; split <;> rfl
theorem unfollow_t {X : List Acc} {who s : ByteArray} {F : List ByteArray} (h1 : asB X = true) (h2 : memB (nms X) s = true) (h4 : dropM (fol X s) who = some F) : unfollowM X who s = some (setF X s F) := by
  unfold unfollowM; rw [h1, h2, h4]; simp
theorem follow_some {X Y : List Acc} {who s : ByteArray} (h : followM X who s = some Y) : ∃ F, asB X = true ∧ s ∈ nms X ∧ who ≠ s ∧ putM (fol X s) who = some F ∧ Y = setF X s F := by
  unfold followM at h
  split at h
  · rename_i hc
    rw [Bool.and_eq_true, Bool.and_eq_true, memB_iff] at hc
    rw [Option.map_eq_some_iff] at h
    obtain ⟨F, hF, rfl⟩ := h
    exact ⟨F, hc.1.1, hc.1.2, by simpa using hc.2, hF, rfl⟩
  · cases h
theorem unfollow_some {X Y : List Acc} {who s : ByteArray} (h : unfollowM X who s = some Y) : ∃ F, asB X = true ∧ s ∈ nms X ∧ dropM (fol X s) who = some F ∧ Y = setF X s F := by
  unfold unfollowM at h
  split at h
  · rename_i hc
    rw [Bool.and_eq_true, memB_iff] at hc
    rw [Option.map_eq_some_iff] at h
    obtain ⟨F, hF, rfl⟩ := h
    exact ⟨F, hc.1, hc.2, hF, rfl⟩
  · cases h

theorem fol_none {X : List Acc} {s : ByteArray} (h : s ∉ nms X) : fol X s = [] := by
  unfold fol
  have : X.find? (fun a => decide (a.1 = s)) = none := by
    rw [List.find?_eq_none]
    intro a ha
    have : a.1 ≠ s := fun e => h (e ▸ List.mem_map_of_mem ha)
    simpa using this
  rw [this]; rfl
theorem fol_at {X : List Acc} {k : Nat} {a : Acc} (ha : Asc (nms X)) (h : X[k]? = some a) : fol X a.1 = a.2 := by
  unfold fol
  have : X.find? (fun b => decide (b.1 = a.1)) = some a := by
    cases hf : X.find? (fun b => decide (b.1 = a.1)) with
    | none =>
      rw [List.find?_eq_none] at hf
      exact absurd (hf a (List.mem_of_getElem? h)) (by simp)
    | some b =>
      have hb := List.find?_some hf
      simp only [decide_eq_true_eq] at hb
      obtain ⟨j, hj, e⟩ := List.mem_iff_getElem.1 (List.mem_of_find?_eq_some hf)
      have hjb : X[j]? = some b := by rw [List.getElem?_eq_getElem hj, e]
      have h1 := nms_at hjb
      rw [hb] at h1
      have : j = k := ha.uniq h1 (nms_at h)
      subst this
      rw [hjb] at h; cases h; rfl
  rw [this]; rfl
theorem nms_mem {X : List Acc} {s : ByteArray} (h : s ∈ nms X) : ∃ (k : Nat) (F : List ByteArray), X[k]? = some (s, F) := by
  unfold nms at h
  obtain ⟨a, ha, rfl⟩ := List.mem_map.1 h
  obtain ⟨k, hk, e⟩ := List.mem_iff_getElem.1 ha
  exact ⟨k, a.2, by rw [List.getElem?_eq_getElem hk, e]⟩
theorem setF_nms (X : List Acc) (s : ByteArray) (F : List ByteArray) : nms (setF X s F) = nms X := by
  unfold nms setF
  rw [List.map_map]
  apply List.map_congr_left
  intro a _
  show (if a.1 = s then (a.1, F) else a).1 = a.1
  split <;> rfl
theorem setF_len (X : List Acc) (s : ByteArray) (F : List ByteArray) : (setF X s F).length = X.length := List.length_map _
theorem setF_at {X : List Acc} {k : Nat} {a : Acc} (s : ByteArray) (F : List ByteArray) (h : X[k]? = some a) : (setF X s F)[k]? = some (if a.1 = s then (a.1, F) else a) := by
  unfold setF; rw [List.getElem?_map, h]; rfl
theorem setF_fol {X : List Acc} {s : ByteArray} (F : List ByteArray) (ha : Asc (nms X)) (h : s ∈ nms X) : fol (setF X s F) s = F := by
  obtain ⟨k, G, hk⟩ := nms_mem h
  have h1 := setF_at s F hk
  rw [if_pos rfl] at h1
  exact fol_at (a := (s, F)) (by rw [setF_nms]; exact ha) h1
theorem setF_valid {X : List Acc} {s : ByteArray} {F : List ByteArray} (h : asB X = true) (hF : nsB F = true) (hs : s ∉ F) : asB (setF X s F) = true := by
  rw [asB_iff, setF_nms, setF_len]
  refine ⟨asB_6 h, fun a ha => ?_, asB_asc h⟩
  unfold setF at ha
  obtain ⟨b, hb, rfl⟩ := List.mem_map.1 ha
  have h1 := asB_acc h hb
  split
  · rename_i e
    exact accB_iff.2 ⟨h1.1, hF, by rw [e]; exact hs⟩
  · exact accB_iff.2 h1
theorem setF_setF (X : List Acc) (s : ByteArray) (F G : List ByteArray) : setF (setF X s F) s G = setF X s G := by
  unfold setF
  rw [List.map_map]
  apply List.map_congr_left
  intro a _
  show (if (if a.1 = s then (a.1, F) else a).1 = s then ((if a.1 = s then (a.1, F) else a).1, G) else (if a.1 = s then (a.1, F) else a)) = _
  by_cases e : a.1 = s
  · simp [e]
  · simp [e]
theorem setF_same {X : List Acc} {s : ByteArray} (ha : Asc (nms X)) : setF X s (fol X s) = X := by
  have : ∀ a ∈ X, (if a.1 = s then (a.1, fol X s) else a) = a := by
    intro a hm
    split
    · rename_i e
      obtain ⟨k, hk, e2⟩ := List.mem_iff_getElem.1 hm
      rw [← e, fol_at ha (by rw [List.getElem?_eq_getElem hk, e2])]
    · rfl
  unfold setF
  rw [List.map_congr_left this, List.map_id']
theorem fol_valid {X : List Acc} {s : ByteArray} (h : asB X = true) (hs : s ∈ nms X) : nsB (fol X s) = true ∧ s ∉ fol X s := by
  obtain ⟨k, G, hk⟩ := nms_mem hs
  have h1 := fol_at (asB_asc h) hk
  have h2 := asB_acc h (List.mem_of_getElem? hk)
  simp only at h1
  rw [h1]; exact ⟨h2.2.1, h2.2.2⟩
theorem byF_mem {X : List Acc} {s t : ByteArray} (h : asB X = true) : t ∈ byF X s ↔ t ∈ nms X ∧ s ∈ fol X t := by
  unfold byF
  rw [List.mem_map]
  constructor
  · rintro ⟨a, ha, rfl⟩
    rw [List.mem_filter, memB_iff] at ha
    obtain ⟨k, hk, e⟩ := List.mem_iff_getElem.1 ha.1
    refine ⟨List.mem_map_of_mem ha.1, ?_⟩
    rw [fol_at (asB_asc h) (by rw [List.getElem?_eq_getElem hk, e])]
    exact ha.2
  · rintro ⟨h1, h2⟩
    obtain ⟨k, G, hk⟩ := nms_mem h1
    have h3 := fol_at (asB_asc h) hk
    simp only at h3
    rw [h3] at h2
    exact ⟨(t, G), by rw [List.mem_filter, memB_iff]; exact ⟨List.mem_of_getElem? hk, h2⟩, rfl⟩
theorem byF_sub (X : List Acc) (s : ByteArray) : (byF X s).Sublist (nms X) := List.Sublist.map _ List.filter_sublist
theorem byM_len (X : List Acc) (s : ByteArray) : (byM X s).length ≤ X.length := by
  unfold byM; split
  · have := (byF_sub X s).length_le; rw [nms_len] at this; exact this
  · exact Nat.zero_le _
theorem byM_self {X : List Acc} {s : ByteArray} (h : asB X = true) : s ∉ byM X s := by
  rw [byM_t h, byF_mem h]
  rintro ⟨h1, h2⟩
  exact (fol_valid h h1).2 h2

/-! What the laws of following ask. -/
theorem put_not {L M : List ByteArray} {who s : ByteArray} (h : putM L who = some M) (hs : s ∉ L) (hn : who ≠ s) : s ∉ M := by
  rw [(putM_some h).1, put_mem]
  rintro (e | e)
  · exact hn e.symm
  · exact hs e
theorem drop_not {L M : List ByteArray} {who s : ByteArray} (h : dropM L who = some M) (hs : s ∉ L) : s ∉ M := by
  rw [(dropM_some h).1]
  exact fun e => hs ((dropAt_sub _ _).subset e)
structure Followed (X Y : List Acc) (who s : ByteArray) (F : List ByteArray) : Prop where
  vx : asB X = true
  vy : asB Y = true
  sx : s ∈ nms X
  sy : s ∈ nms Y
  ne : who ≠ s
  put : putM (fol X s) who = some F
  eq : Y = setF X s F
  fy : fol Y s = F
theorem followed {X Y : List Acc} {who s : ByteArray} (h : followM X who s = some Y) : ∃ F, Followed X Y who s F := by
  obtain ⟨F, h1, h2, h3, h4, rfl⟩ := follow_some h
  have hf := fol_valid h1 h2
  exact ⟨F, h1, setF_valid h1 (putM_some h4).2.2.2 (put_not h4 hf.2 h3), h2, by rw [setF_nms]; exact h2, h3, h4, rfl, setF_fol F (asB_asc h1) h2⟩
theorem Followed.has {X Y : List Acc} {who s : ByteArray} {F : List ByteArray} (h : Followed X Y who s F) : who ∈ folM Y s := by
  rw [folM_t h.vy, h.fy, (putM_some h.put).1, put_mem]; exact .inl rfl
theorem Followed.by' {X Y : List Acc} {who s : ByteArray} {F : List ByteArray} (h : Followed X Y who s F) : s ∈ byM Y who := by
  rw [byM_t h.vy, byF_mem h.vy]
  refine ⟨h.sy, ?_⟩
  have := h.has
  rwa [folM_t h.vy] at this
theorem Followed.again {X Y : List Acc} {who s : ByteArray} {F : List ByteArray} (h : Followed X Y who s F) : followM Y who s = some Y := by
  have h1 : putM (fol Y s) who = some F := by
    rw [h.fy]; exact putM_again h.put (by rw [(putM_some h.put).1, put_mem]; exact .inl rfl)
  rw [follow_t h.vy (memB_t h.sy) h.ne h1, h.eq, setF_setF]
theorem Followed.end' {X Y : List Acc} {who s : ByteArray} {F : List ByteArray} (h : Followed X Y who s F) : ∃ Z, unfollowM Y who s = some Z ∧ (who ∉ folM X s → Z = X) := by
  obtain ⟨K, hK, hKL⟩ := putM_drop h.put
  refine ⟨setF Y s K, unfollow_t h.vy (memB_t h.sy) (by rw [h.fy]; exact hK), fun hn => ?_⟩
  rw [folM_t h.vx] at hn
  rw [hKL hn, h.eq, setF_setF, setF_same (asB_asc h.vx)]
structure Unfollowed (X Y : List Acc) (who s : ByteArray) (F : List ByteArray) : Prop where
  vx : asB X = true
  vy : asB Y = true
  sx : s ∈ nms X
  sy : s ∈ nms Y
  drop : dropM (fol X s) who = some F
  eq : Y = setF X s F
  fy : fol Y s = F
theorem unfollowed {X Y : List Acc} {who s : ByteArray} (h : unfollowM X who s = some Y) : ∃ F, Unfollowed X Y who s F := by
  obtain ⟨F, h1, h2, h4, rfl⟩ := unfollow_some h
  have hf := fol_valid h1 h2
  exact ⟨F, h1, setF_valid h1 (dropM_nsB h4) (drop_not h4 hf.2), h2, by rw [setF_nms]; exact h2, h4, rfl, setF_fol F (asB_asc h1) h2⟩
theorem Unfollowed.gone {X Y : List Acc} {who s : ByteArray} {F : List ByteArray} (h : Unfollowed X Y who s F) : who ∉ folM Y s ∧ who ∈ folM X s ∧ unfollowM Y who s = none := by
  obtain ⟨f1, f2, f3, f4, f5, f6⟩ := dropM_facts h.drop
  exact ⟨by rw [folM_t h.vy, h.fy]; exact f3, by rw [folM_t h.vx]; exact f5, unfollow_4 (by rw [h.fy]; exact f4)⟩
theorem Unfollowed.ne {X Y : List Acc} {who s : ByteArray} {F : List ByteArray} (h : Unfollowed X Y who s F) : who ≠ s := by
  have h1 := (dropM_facts h.drop).2.2.2.2.1
  rintro rfl
  exact (fol_valid h.vx h.sx).2 h1
theorem Unfollowed.back {X Y : List Acc} {who s : ByteArray} {F : List ByteArray} (h : Unfollowed X Y who s F) : followM Y who s = some X := by
  have f6 := (dropM_facts h.drop).2.2.2.2.2
  rw [follow_t h.vy (memB_t h.sy) h.ne (by rw [h.fy]; exact f6), h.eq, setF_setF, setF_same (asB_asc h.vx)]
/-- The k-th account of another name is as before. -/
theorem setF_other {X : List Acc} {k : Nat} {a : Acc} {s : ByteArray} (F : List ByteArray) (h : X[k]? = some a) (hn : a.1 ≠ s) : (setF X s F)[k]? = some a := by
  rw [setF_at s F h, if_neg hn]

/-! Accounts that are invalid. -/
theorem asB_self {X : List Acc} {n : ByteArray} {F : List ByteArray} (r : List Acc) (_ : X = (n, F) :: r) : asB ((n, [n]) :: r) = false := by
  exact asB_bad (k := 0) (a := (n, [n])) rfl (by rw [← Bool.not_eq_true, accB_iff]; rintro ⟨_, _, h⟩; exact h (by simp))
theorem asB_twice {X : List Acc} {a : Acc} (h : X.getLast? = some a) : asB (X ++ [a]) = false := by
  have hne : X ≠ [] := by rintro rfl; simp at h
  have hl : 0 < X.length := List.length_pos_iff.2 hne
  rw [List.getLast?_eq_getElem?] at h
  refine asB_turn (k := X.length - 1) (a := a) (b := a) (by rw [List.getElem?_append_left (by omega)]; exact h) ?_ (blt_irrefl _)
  rw [show X.length - 1 + 1 = X.length by omega, List.getElem?_append_right (Nat.le_refl _)]
  simp
end Go.Proofs.Ytimpmlmkhjeajaa

/- Numbers of a box: plain mathematics. -/
namespace Go.Proofs.Ytimpmlmkhjeajaa
open Go.RowKit

def inR (i : Int) : Bool := decide (1 ≤ i) && decide (i ≤ 999)
theorem inR_iff {i : Int} : inR i = true ↔ 1 ≤ i ∧ i ≤ 999 := by unfold inR; simp
theorem inR_t {i : Int} (h1 : 1 ≤ i) (h2 : i ≤ 999) : inR i = true := inR_iff.2 ⟨h1, h2⟩
theorem inR_f {i : Int} (h : i < 1 ∨ 999 < i) : inR i = false := by rw [← Bool.not_eq_true, inR_iff]; omega
/-- Numbers descend. -/
abbrev Desc (L : List Int) : Prop := L.Pairwise (· > ·)
/-- Valid numbers of a box. -/
def idsB (L : List Int) : Bool := decide (L.length ≤ 6) && L.all inR && decide (Desc L)
theorem idsB_iff {L : List Int} : idsB L = true ↔ L.length ≤ 6 ∧ (∀ i ∈ L, inR i = true) ∧ Desc L := by unfold idsB; simp [and_assoc]
theorem idsB_f {L : List Int} (h : ¬(L.length ≤ 6 ∧ (∀ i ∈ L, inR i = true) ∧ Desc L)) : idsB L = false := by rw [← Bool.not_eq_true, idsB_iff]; exact h
theorem idsB_len {L : List Int} (h : 6 < L.length) : idsB L = false := idsB_f fun hh => by omega
theorem idsB_bad {L : List Int} {k : Nat} {i : Int} (hi : L[k]? = some i) (h : inR i = false) : idsB L = false :=
  idsB_f fun hh => by rw [hh.2.1 i (List.mem_of_getElem? hi)] at h; cases h
theorem desc_gt {L : List Int} (hp : Desc L) {j k : Nat} {a b : Int} (ha : L[j]? = some a) (hb : L[k]? = some b) (hjk : j < k) : b < a := by
  obtain ⟨j1, e1⟩ := List.getElem?_eq_some_iff.1 ha
  obtain ⟨k1, e2⟩ := List.getElem?_eq_some_iff.1 hb
  have := List.pairwise_iff_getElem.1 hp j k j1 k1 hjk
  rw [e1, e2] at this; exact this
theorem idsB_turn {L : List Int} {k : Nat} {a b : Int} (ha : L[k]? = some a) (hb : L[k + 1]? = some b) (h : a ≤ b) : idsB L = false :=
  idsB_f fun hh => by have := desc_gt hh.2.2 ha hb (Nat.lt_succ_self k); omega
theorem idsB_6 {L : List Int} (h : idsB L = true) : L.length ≤ 6 := (idsB_iff.1 h).1
theorem idsB_desc {L : List Int} (h : idsB L = true) : Desc L := (idsB_iff.1 h).2.2
theorem idsB_in {L : List Int} (h : idsB L = true) {i : Int} (hi : i ∈ L) : 1 ≤ i ∧ i ≤ 999 := inR_iff.1 ((idsB_iff.1 h).2.1 i hi)
theorem idsB_nil : idsB [] = true := rfl
/-- The first k numbers are valid and descend. -/
def IUpto (L : List Int) (k : Nat) : Prop := ∀ j a, j < k → L[j]? = some a → inR a = true ∧ ∀ b, j + 1 < k → L[j + 1]? = some b → b < a
theorem IUpto.zero (L : List Int) : IUpto L 0 := fun j _ h => absurd h (by omega)
theorem IUpto.one {L : List Int} {a : Int} (ha : L[0]? = some a) (h : inR a = true) : IUpto L 1 := fun j t hj ht => by
  obtain rfl : j = 0 := by omega
  rw [ha] at ht; cases ht
  exact ⟨h, fun _ hh => absurd hh (by omega)⟩
theorem IUpto.more {L : List Int} {k : Nat} {a b : Int} (hu : IUpto L (k + 1)) (ha : L[k]? = some a) (hb : L[k + 1]? = some b) (h : inR b = true) (hl : b < a) : IUpto L (k + 2) := fun j t hj ht => by
  by_cases e : j = k + 1
  · subst e; rw [hb] at ht; cases ht; exact ⟨h, fun _ hh => absurd hh (by omega)⟩
  · refine ⟨(hu j t (by omega) ht).1, fun u hju hu2 => ?_⟩
    by_cases e2 : j = k
    · subst e2; rw [ha] at ht; rw [hb] at hu2; cases ht; cases hu2; exact hl
    · exact (hu j t (by omega) ht).2 u (by omega) hu2
theorem desc_of {L : List Int} (h : ∀ k a b, L[k]? = some a → L[k + 1]? = some b → b < a) : Desc L := by
  unfold Desc
  rw [List.pairwise_iff_getElem]
  intro i j hi hj hij
  obtain ⟨d, rfl⟩ : ∃ d, j = i + 1 + d := ⟨j - i - 1, by omega⟩
  induction d with
  | zero => exact h i _ _ (List.getElem?_eq_getElem hi) (List.getElem?_eq_getElem hj)
  | succ d ih =>
    have h1 := ih (by omega) (by omega)
    have h2 := h (i + 1 + d) _ _ (List.getElem?_eq_getElem (by omega)) (List.getElem?_eq_getElem hj)
    omega
theorem IUpto.all {L : List Int} (h : IUpto L L.length) (hl : L.length ≤ 6) : idsB L = true := by
  rw [idsB_iff]
  refine ⟨hl, fun s hs => ?_, desc_of fun k a b ha hb => ?_⟩
  · obtain ⟨j, hj, rfl⟩ := List.mem_iff_getElem.1 hs
    exact (h j _ hj (List.getElem?_eq_getElem hj)).1
  · have h1 := (List.getElem?_eq_some_iff.1 hb).1
    exact (h k _ (by omega) ha).2 _ h1 hb

/-- One round of putting a number: what there is, whether it was put. -/
def pstep (id : Int) (r : List Int × Bool) (i : Int) : List Int × Bool :=
  let r := if r.2 = false ∧ i ≤ id then (r.1 ++ [id], true) else r
  if i ≠ id then (r.1 ++ [i], r.2) else r
def pst (id : Int) (L : List Int) (k : Nat) : List Int × Bool := (L.take k).foldl (pstep id) ([], false)
def bput (L : List Int) (id : Int) : List Int := (if (pst id L L.length).2 = true then (pst id L L.length).1 else (pst id L L.length).1 ++ [id]).take 6
theorem pst_zero (id : Int) (L : List Int) : pst id L 0 = ([], false) := rfl
theorem pst_succ {id : Int} {L : List Int} {k : Nat} {i : Int} (h : L[k]? = some i) : pst id L (k + 1) = pstep id (pst id L k) i := by
  unfold pst; rw [List.take_add_one, h]; simp
theorem pst_len (id : Int) (L : List Int) (k : Nat) : (pst id L k).1.length ≤ 2 * k := by
  induction k with
  | zero => simp [pst_zero]
  | succ k ih =>
    cases h : L[k]? with
    | none =>
      have : pst id L (k + 1) = pst id L k := by
        unfold pst
        rw [List.getElem?_eq_none_iff] at h
        rw [List.take_of_length_le (by omega), List.take_of_length_le (by omega)]
      rw [this]; omega
    | some i =>
      rw [pst_succ h]
      have key : ∀ r : List Int × Bool, (pstep id r i).1.length ≤ r.1.length + 2 := by
        intro r
        unfold pstep
        by_cases h1 : r.2 = false ∧ i ≤ id <;> by_cases h2 : i ≠ id <;> simp [h1, h2] <;> omega
      have := key (pst id L k)
      omega

/-- A number put into numbers that descend. -/
def insD (id : Int) : List Int → List Int
  | [] => [id]
  | m :: M => if m < id then id :: m :: M else if m = id then m :: M else m :: insD id M
theorem fold_true (id : Int) : ∀ (M acc : List Int), M.foldl (pstep id) (acc, true) = (acc ++ M.filter (fun i => decide (i ≠ id)), true)
  | [], acc => by simp
  | m :: M, acc => by
    rw [List.foldl_cons]
    by_cases e : m = id
    · have : pstep id (acc, true) m = (acc, true) := by simp [pstep, e]
      rw [this, fold_true id M acc]; simp [e]
    · have : pstep id (acc, true) m = (acc ++ [m], true) := by simp [pstep, e]
      rw [this, fold_true id M]; simp [e]
theorem fold_false (id : Int) : ∀ (M acc : List Int), Desc M →
    (if (M.foldl (pstep id) (acc, false)).2 = true then (M.foldl (pstep id) (acc, false)).1 else (M.foldl (pstep id) (acc, false)).1 ++ [id]) = acc ++ insD id M
  | [], acc, _ => by simp [insD]
  | m :: M, acc, h => by
    have hd := List.pairwise_cons.1 h
    rw [List.foldl_cons]
    by_cases e : m ≤ id
    · have hne : ∀ i ∈ M, i ≠ id := fun i hi e2 => by have := hd.1 i hi; omega
      have hf : M.filter (fun i => decide (i ≠ id)) = M := List.filter_eq_self.2 fun i hi => by simpa using hne i hi
      by_cases e2 : m = id
      · have : pstep id (acc, false) m = (acc ++ [id], true) := by simp [pstep, e2]
        rw [this, fold_true, hf]
        simp [insD, e2]
      · have : pstep id (acc, false) m = (acc ++ [id] ++ [m], true) := by simp [pstep, e, e2]
        rw [this, fold_true, hf]
        have hlt : m < id := by omega
        simp [insD, hlt]
    · have : pstep id (acc, false) m = (acc ++ [m], false) := by
        have : m ≠ id := by omega
        simp [pstep, e, this]
      rw [this, fold_false id M (acc ++ [m]) hd.2]
      have h1 : ¬ m < id := by omega
      have h2 : m ≠ id := by omega
      simp [insD, h1, h2]
theorem bput_eq {L : List Int} (h : Desc L) (id : Int) : bput L id = (insD id L).take 6 := by
  unfold bput pst
  rw [List.take_length, fold_false id L [] h, List.nil_append]
theorem insD_mem {id x : Int} : ∀ {M : List Int}, x ∈ insD id M ↔ x = id ∨ x ∈ M
  | [] => by simp [insD]
  | m :: M => by
    unfold insD
    split
    · simp
    · split
      · rename_i h; subst h; simp
      · simp only [List.mem_cons, insD_mem (M := M)]
        constructor
        · rintro (h | h | h)
          · exact .inr (.inl h)
          · exact .inl h
          · exact .inr (.inr h)
        · rintro (h | h | h)
          · exact .inr (.inl h)
          · exact .inl h
          · exact .inr (.inr h)
theorem insD_desc {id : Int} : ∀ {M : List Int}, Desc M → Desc (insD id M)
  | [], _ => by simp [insD]
  | m :: M, h => by
    have hd := List.pairwise_cons.1 h
    unfold insD
    split
    · rename_i hlt
      refine List.pairwise_cons.2 ⟨fun x hx => ?_, h⟩
      rcases List.mem_cons.1 hx with rfl | hx
      · exact hlt
      · have := hd.1 x hx; omega
    · split
      · exact h
      · refine List.pairwise_cons.2 ⟨fun x hx => ?_, insD_desc hd.2⟩
        rcases insD_mem.1 hx with rfl | hx
        · omega
        · exact hd.1 x hx
theorem insD_len (id : Int) : ∀ (M : List Int), M.length ≤ (insD id M).length ∧ (insD id M).length ≤ M.length + 1
  | [] => by simp [insD]
  | m :: M => by
    unfold insD
    have := insD_len id M
    split
    · simp
    · split
      · simp
      · simp; omega
theorem desc_ext : ∀ {L M : List Int}, Desc L → Desc M → (∀ x, x ∈ L ↔ x ∈ M) → L = M
  | [], [], _, _, _ => rfl
  | [], m :: M, _, _, h => absurd ((h m).2 (by simp)) (by simp)
  | l :: L, [], _, _, h => absurd ((h l).1 (by simp)) (by simp)
  | l :: L, m :: M, hL, hM, h => by
    have dL := List.pairwise_cons.1 hL
    have dM := List.pairwise_cons.1 hM
    have e : l = m := by
      rcases List.mem_cons.1 ((h l).1 (by simp)) with e | e
      · exact e
      · rcases List.mem_cons.1 ((h m).2 (by simp)) with e2 | e2
        · exact e2.symm
        · have h1 := dM.1 l e; have h2 := dL.1 m e2; omega
    subst e
    rw [desc_ext dL.2 dM.2 fun x => ?_]
    have hx := h x
    constructor
    · intro hm
      rcases List.mem_cons.1 (hx.1 (List.mem_cons_of_mem _ hm)) with e | e
      · have := dL.1 x hm; omega
      · exact e
    · intro hm
      rcases List.mem_cons.1 (hx.2 (List.mem_cons_of_mem _ hm)) with e | e
      · have := dM.1 x hm; omega
      · exact e
theorem take_desc {M : List Int} (h : Desc M) (n : Nat) : Desc (M.take n) := List.Pairwise.sublist (List.take_sublist _ _) h
/-- Only the first n count for the first n. -/
theorem insD_take (id : Int) : ∀ (n : Nat) (M : List Int), (insD id (M.take n)).take n = (insD id M).take n
  | 0, M => by simp
  | n + 1, [] => by simp
  | n + 1, m :: M => by
    rw [List.take_succ_cons]
    unfold insD
    split
    · rw [List.take_succ_cons, List.take_succ_cons]
      congr 1
      cases n with
      | zero => simp
      | succ n => rw [List.take_succ_cons, List.take_succ_cons, List.take_take, Nat.min_eq_left (by omega)]
    · split
      · rw [List.take_succ_cons, List.take_succ_cons, List.take_take, Nat.min_self]
      · rw [List.take_succ_cons, List.take_succ_cons, insD_take id n M]
theorem insD_comm {a b : Int} {M : List Int} (h : Desc M) : insD a (insD b M) = insD b (insD a M) :=
  desc_ext (insD_desc (insD_desc h)) (insD_desc (insD_desc h)) fun x => by
    simp only [insD_mem]
    constructor
    · rintro (h | h | h)
      · exact .inr (.inl h)
      · exact .inl h
      · exact .inr (.inr h)
    · rintro (h | h | h)
      · exact .inr (.inl h)
      · exact .inl h
      · exact .inr (.inr h)
theorem insD_twice {a : Int} {M : List Int} (h : Desc M) : insD a (insD a M) = insD a M :=
  desc_ext (insD_desc (insD_desc h)) (insD_desc h) fun x => by
    simp only [insD_mem]
    constructor
    · intro h
      rcases h with h | h
      · exact .inl h
      · exact h
    · intro h; exact .inr h
theorem bput_desc {L : List Int} (h : Desc L) (id : Int) : Desc (bput L id) := by rw [bput_eq h]; exact take_desc (insD_desc h) 6
theorem bput_mem {L : List Int} (h : Desc L) {id x : Int} (hx : x ∈ bput L id) : x = id ∨ x ∈ L := by
  rw [bput_eq h] at hx; exact insD_mem.1 (List.mem_of_mem_take hx)
theorem bput_valid {L : List Int} (h : idsB L = true) {id : Int} (hi : inR id = true) : idsB (bput L id) = true := by
  rw [idsB_iff]
  refine ⟨?_, fun x hx => ?_, bput_desc (idsB_desc h) id⟩
  · rw [bput_eq (idsB_desc h), List.length_take]; omega
  · rcases bput_mem (idsB_desc h) hx with rfl | hx
    · exact hi
    · exact (idsB_iff.1 h).2.1 x hx
theorem bput_ge {L : List Int} (h : idsB L = true) (id : Int) : L.length ≤ (bput L id).length := by
  rw [bput_eq (idsB_desc h), List.length_take]
  have := insD_len id L
  have := idsB_6 h
  omega
theorem bput_ne {L : List Int} (h : Desc L) (id : Int) : bput L id ≠ [] := by
  rw [bput_eq h]
  intro e
  have h1 := congrArg List.length e
  rw [List.length_take, List.length_nil] at h1
  have hm : id ∈ insD id L := insD_mem.2 (.inl rfl)
  have := List.length_pos_of_mem hm
  omega
theorem bput_twice {L : List Int} (h : Desc L) (id : Int) : bput (bput L id) id = bput L id := by
  rw [bput_eq (bput_desc h id), bput_eq h, insD_take, insD_twice h]
theorem bput_swap {L : List Int} (h : Desc L) (a b : Int) : bput (bput L a) b = bput (bput L b) a := by
  rw [bput_eq (bput_desc h a), bput_eq h, insD_take, bput_eq (bput_desc h b), bput_eq h, insD_take, insD_comm h]
theorem bput_nil (id : Int) : bput [] id = [id] := by rw [bput_eq List.Pairwise.nil]; simp [insD]
/-- What was put is there, or the box is full of newer ones. -/
theorem bput_there {L : List Int} (h : Desc L) (id : Int) : id ∈ bput L id ∨ ((bput L id).length = 6 ∧ ∃ x, (bput L id)[5]? = some x ∧ id < x) := by
  rw [bput_eq h]
  by_cases hm : id ∈ (insD id L).take 6
  · exact .inl hm
  · right
    have hall : id ∈ insD id L := insD_mem.2 (.inl rfl)
    obtain ⟨j, hj, ej⟩ := List.mem_iff_getElem.1 hall
    have hj6 : 6 ≤ j := by
      rcases Nat.lt_or_ge j 6 with hl | hl
      · exact absurd (List.mem_iff_getElem?.2 ⟨j, by rw [List.getElem?_take, if_pos hl, List.getElem?_eq_getElem hj, ej]⟩) hm
      · exact hl
    have h5 : (insD id L)[5]? = some ((insD id L)[5]'(by omega)) := List.getElem?_eq_getElem _
    refine ⟨by rw [List.length_take]; omega, _, by rw [List.getElem?_take, if_pos (by omega)]; exact h5, ?_⟩
    exact desc_gt (insD_desc h) h5 (by rw [List.getElem?_eq_getElem hj, ej]) (by omega)
def bPutM (L : List Int) (id : Int) : Option (List Int) := if (idsB L && inR id) = true then some (bput L id) else none
theorem bPutM_1 {L : List Int} {id : Int} (h : idsB L = false) : bPutM L id = none := by unfold bPutM; rw [h]; rfl
theorem bPutM_2 {L : List Int} {id : Int} (h : inR id = false) : bPutM L id = none := by unfold bPutM; rw [h, Bool.and_false]; rfl
theorem bPutM_t {L : List Int} {id : Int} (h1 : idsB L = true) (h2 : inR id = true) : bPutM L id = some (bput L id) := by unfold bPutM; rw [h1, h2]; rfl
theorem bPutM_some {L M : List Int} {id : Int} (h : bPutM L id = some M) : idsB L = true ∧ inR id = true ∧ M = bput L id := by
  unfold bPutM at h
  split at h
  · rename_i hc
    rw [Bool.and_eq_true] at hc
    cases h
    exact ⟨hc.1, hc.2, rfl⟩
  · cases h
end Go.Proofs.Ytimpmlmkhjeajaa

/- Boxes: plain mathematics. -/
namespace Go.Proofs.Ytimpmlmkhjeajaa
open Go.RowKit

/-- A box: its name, its numbers. -/
abbrev Bx := ByteArray × List Int
def bxB (b : Bx) : Bool := nvB b.1 && idsB b.2 && !b.2.isEmpty
def bnms (X : List Bx) : List ByteArray := X.map (·.1)
/-- Valid boxes. -/
def bxsB (X : List Bx) : Bool := decide (X.length ≤ 10) && X.all bxB && decide (Asc (bnms X))
theorem bxB_iff {b : Bx} : bxB b = true ↔ nvB b.1 = true ∧ idsB b.2 = true ∧ b.2 ≠ [] := by
  unfold bxB
  rw [Bool.and_eq_true, Bool.and_eq_true, Bool.not_eq_true', ← Bool.not_eq_true, List.isEmpty_iff, and_assoc]
theorem bxB_1 {b : Bx} (h : nvB b.1 = false) : bxB b = false := by unfold bxB; rw [h]; rfl
theorem bxB_2 {b : Bx} (h : idsB b.2 = false) : bxB b = false := by unfold bxB; rw [h, Bool.and_false]; rfl
theorem bxB_3 {b : Bx} (h : b.2 = []) : bxB b = false := by unfold bxB; rw [h]; simp
theorem bxB_t {b : Bx} (h1 : nvB b.1 = true) (h2 : idsB b.2 = true) (h3 : b.2 ≠ []) : bxB b = true := bxB_iff.2 ⟨h1, h2, h3⟩
theorem bxsB_iff {X : List Bx} : bxsB X = true ↔ X.length ≤ 10 ∧ (∀ a ∈ X, bxB a = true) ∧ Asc (bnms X) := by unfold bxsB; simp [and_assoc]
theorem bxsB_f {X : List Bx} (h : ¬(X.length ≤ 10 ∧ (∀ a ∈ X, bxB a = true) ∧ Asc (bnms X))) : bxsB X = false := by rw [← Bool.not_eq_true, bxsB_iff]; exact h
theorem bxsB_len {X : List Bx} (h : 10 < X.length) : bxsB X = false := bxsB_f fun hh => by omega
theorem bxsB_bad {X : List Bx} {k : Nat} {a : Bx} (ha : X[k]? = some a) (h : bxB a = false) : bxsB X = false :=
  bxsB_f fun hh => by rw [hh.2.1 a (List.mem_of_getElem? ha)] at h; cases h
theorem bnms_at {X : List Bx} {k : Nat} {a : Bx} (h : X[k]? = some a) : (bnms X)[k]? = some a.1 := by unfold bnms; rw [List.getElem?_map, h]; rfl
theorem bnms_len (X : List Bx) : (bnms X).length = X.length := List.length_map _
theorem bxsB_turn {X : List Bx} {k : Nat} {a b : Bx} (ha : X[k]? = some a) (hb : X[k + 1]? = some b) (h : blt a.1 b.1 = false) : bxsB X = false :=
  bxsB_f fun hh => by rw [asc_iff.1 hh.2.2 k a.1 b.1 (bnms_at ha) (bnms_at hb)] at h; cases h
theorem bxsB_10 {X : List Bx} (h : bxsB X = true) : X.length ≤ 10 := (bxsB_iff.1 h).1
theorem bxsB_bx {X : List Bx} (h : bxsB X = true) {a : Bx} (ha : a ∈ X) : nvB a.1 = true ∧ idsB a.2 = true ∧ a.2 ≠ [] := bxB_iff.1 ((bxsB_iff.1 h).2.1 a ha)
theorem bxsB_asc {X : List Bx} (h : bxsB X = true) : Asc (bnms X) := (bxsB_iff.1 h).2.2
/-- The first k boxes are valid and ascend. -/
def BUpto (X : List Bx) (k : Nat) : Prop := ∀ j a, j < k → X[j]? = some a → bxB a = true ∧ ∀ b, j + 1 < k → X[j + 1]? = some b → blt a.1 b.1 = true
theorem BUpto.zero (X : List Bx) : BUpto X 0 := fun j _ h => absurd h (by omega)
theorem BUpto.one {X : List Bx} {a : Bx} (ha : X[0]? = some a) (h : bxB a = true) : BUpto X 1 := fun j t hj ht => by
  obtain rfl : j = 0 := by omega
  rw [ha] at ht; cases ht
  exact ⟨h, fun _ hh => absurd hh (by omega)⟩
theorem BUpto.more {X : List Bx} {k : Nat} {a b : Bx} (hu : BUpto X (k + 1)) (ha : X[k]? = some a) (hb : X[k + 1]? = some b) (h : bxB b = true) (hl : blt a.1 b.1 = true) : BUpto X (k + 2) := fun j t hj ht => by
  by_cases e : j = k + 1
  · subst e; rw [hb] at ht; cases ht; exact ⟨h, fun _ hh => absurd hh (by omega)⟩
  · refine ⟨(hu j t (by omega) ht).1, fun u hju hu2 => ?_⟩
    by_cases e2 : j = k
    · subst e2; rw [ha] at ht; rw [hb] at hu2; cases ht; cases hu2; exact hl
    · exact (hu j t (by omega) ht).2 u (by omega) hu2
theorem BUpto.all {X : List Bx} (h : BUpto X X.length) (hl : X.length ≤ 10) : bxsB X = true := by
  rw [bxsB_iff]
  refine ⟨hl, fun s hs => ?_, asc_iff.2 fun k a b ha hb => ?_⟩
  · obtain ⟨j, hj, rfl⟩ := List.mem_iff_getElem.1 hs
    exact (h j _ hj (List.getElem?_eq_getElem hj)).1
  · have h1 := (List.getElem?_eq_some_iff.1 hb).1
    rw [bnms_len] at h1
    have e1 := bnms_at (List.getElem?_eq_getElem (l := X) (i := k) (by omega))
    have e2 := bnms_at (List.getElem?_eq_getElem (l := X) (i := k + 1) (by omega))
    rw [e1] at ha; rw [e2] at hb; cases ha; cases hb
    exact (h k _ (by omega) (List.getElem?_eq_getElem (by omega))).2 _ h1 (List.getElem?_eq_getElem h1)

/-- The numbers of a name. -/
def bget (X : List Bx) (s : ByteArray) : List Int := ((X.find? fun a => decide (a.1 = s)).map (·.2)).getD []
def bgetM (X : List Bx) (s : ByteArray) : List Int := if bxsB X = true then bget X s else []
theorem bgetM_t {X : List Bx} {s : ByteArray} (h : bxsB X = true) : bgetM X s = bget X s := by unfold bgetM; rw [if_pos h]
theorem bgetM_f {X : List Bx} {s : ByteArray} (h : bxsB X = false) : bgetM X s = [] := by unfold bgetM; rw [h]; rfl
theorem bget_cons (a : Bx) (X : List Bx) (s : ByteArray) : bget (a :: X) s = if a.1 = s then a.2 else bget X s := by
  unfold bget
  rw [List.find?_cons]
  by_cases e : a.1 = s <;> simp [e]
theorem bget_none {X : List Bx} {s : ByteArray} (h : s ∉ bnms X) : bget X s = [] := by
  induction X with
  | nil => rfl
  | cons a X ih =>
    rw [bget_cons]
    unfold bnms at h ih
    rw [List.map_cons, List.mem_cons] at h
    rw [if_neg (fun e => h (.inl e.symm)), ih (fun e => h (.inr e))]
theorem bnms_mem {X : List Bx} {s : ByteArray} (h : s ∈ bnms X) : ∃ (k : Nat) (L : List Int), X[k]? = some (s, L) := by
  unfold bnms at h
  obtain ⟨a, ha, rfl⟩ := List.mem_map.1 h
  obtain ⟨k, hk, e⟩ := List.mem_iff_getElem.1 ha
  exact ⟨k, a.2, by rw [List.getElem?_eq_getElem hk, e]⟩
theorem asc_head {a : Bx} {X : List Bx} (h : Asc (bnms (a :: X))) : (∀ t ∈ bnms X, blt a.1 t = true) ∧ Asc (bnms X) := by
  unfold Asc bnms at h ⊢
  rw [List.map_cons, List.pairwise_cons] at h
  exact h
theorem bget_at : ∀ {X : List Bx} {k : Nat} {a : Bx}, Asc (bnms X) → X[k]? = some a → bget X a.1 = a.2
  | [], k, a, _, h => by simp at h
  | b :: X, 0, a, _, h => by simp at h; subst h; rw [bget_cons, if_pos rfl]
  | b :: X, k + 1, a, hA, h => by
    have h' : X[k]? = some a := by simpa using h
    have hh := asc_head hA
    rw [bget_cons, if_neg (fun e => ?_), bget_at hh.2 h']
    exact blt_ne (hh.1 a.1 (List.mem_map_of_mem (List.mem_of_getElem? h'))) e
theorem bget_valid {X : List Bx} (h : bxsB X = true) (s : ByteArray) : idsB (bget X s) = true := by
  by_cases hs : s ∈ bnms X
  · obtain ⟨k, L, hk⟩ := bnms_mem hs
    have := bget_at (bxsB_asc h) hk
    rw [show (s, L).1 = s from rfl] at this
    rw [this]
    exact (bxsB_bx h (List.mem_of_getElem? hk)).2.1
  · rw [bget_none hs]; exact idsB_nil
/-- Boxes with the same names and the same numbers are the same. -/
theorem bx_ext : ∀ {X Y : List Bx}, Asc (bnms X) → Asc (bnms Y) → (∀ t, t ∈ bnms X ↔ t ∈ bnms Y) → (∀ t, bget X t = bget Y t) → X = Y
  | [], [], _, _, _, _ => rfl
  | [], m :: M, _, _, h, _ => absurd ((h m.1).2 (by simp [bnms])) (by simp [bnms])
  | l :: L, [], _, _, h, _ => absurd ((h l.1).1 (by simp [bnms])) (by simp [bnms])
  | l :: L, m :: M, hL, hM, h, hg => by
    have dL := asc_head hL
    have dM := asc_head hM
    have e : l.1 = m.1 := by
      rcases List.mem_cons.1 (show l.1 ∈ m.1 :: bnms M from (h l.1).1 (by simp [bnms])) with e | e
      · exact e
      · rcases List.mem_cons.1 (show m.1 ∈ l.1 :: bnms L from (h m.1).2 (by simp [bnms])) with e2 | e2
        · exact e2.symm
        · have h1 := dM.1 _ e; have h2 := dL.1 _ e2; rw [blt_asymm h1] at h2; cases h2
    have e2 : l.2 = m.2 := by
      have := hg l.1
      rw [bget_cons, if_pos rfl, bget_cons, if_pos e.symm] at this
      exact this
    have hlm : l = m := Prod.ext e e2
    subst hlm
    rw [bx_ext dL.2 dM.2 (fun t => ?_) (fun t => ?_)]
    · have ht := h t
      constructor
      · intro hm
        rcases List.mem_cons.1 (show t ∈ l.1 :: bnms M from ht.1 (List.mem_cons_of_mem _ hm)) with e | e
        · exact absurd e.symm (blt_ne (dL.1 t hm))
        · exact e
      · intro hm
        rcases List.mem_cons.1 (show t ∈ l.1 :: bnms L from ht.2 (List.mem_cons_of_mem _ hm)) with e | e
        · exact absurd e.symm (blt_ne (dM.1 t hm))
        · exact e
    · have hgt := hg t
      rw [bget_cons, bget_cons] at hgt
      by_cases et : l.1 = t
      · subst et
        rw [bget_none (fun hm => absurd rfl (blt_ne (dL.1 _ hm))), bget_none (fun hm => absurd rfl (blt_ne (dM.1 _ hm)))]
      · rw [if_neg et, if_neg et] at hgt; exact hgt

/-- A number put into the box of a name. -/
def insB (s : ByteArray) (id : Int) : List Bx → List Bx
  | [] => [(s, [id])]
  | b :: X => if blt s b.1 = true then (s, [id]) :: b :: X else if b.1 = s then (s, bput b.2 id) :: X else b :: insB s id X
/-- One round of it as a loop has it. -/
def bstep (s : ByteArray) (id : Int) (r : List Bx × Bool) (b : Bx) : List Bx × Bool :=
  let r := if r.2 = false ∧ blt s b.1 = true then (r.1 ++ [(s, [id])], true) else r
  if b.1 = s then (r.1 ++ [(s, bput b.2 id)], true) else (r.1 ++ [b], r.2)
def bst (s : ByteArray) (id : Int) (X : List Bx) (k : Nat) : List Bx × Bool := (X.take k).foldl (bstep s id) ([], false)
def bsput (X : List Bx) (s : ByteArray) (id : Int) : List Bx := if (bst s id X X.length).2 = true then (bst s id X X.length).1 else (bst s id X X.length).1 ++ [(s, [id])]
theorem bst_zero (s : ByteArray) (id : Int) (X : List Bx) : bst s id X 0 = ([], false) := rfl
theorem bst_succ {s : ByteArray} {id : Int} {X : List Bx} {k : Nat} {b : Bx} (h : X[k]? = some b) : bst s id X (k + 1) = bstep s id (bst s id X k) b := by
  unfold bst; rw [List.take_add_one, h]; simp
theorem bfold_true (s : ByteArray) (id : Int) : ∀ (X acc : List Bx), (∀ b ∈ X, b.1 ≠ s) → X.foldl (bstep s id) (acc, true) = (acc ++ X, true)
  | [], acc, _ => by simp
  | b :: X, acc, h => by
    rw [List.foldl_cons]
    have hb := h b (by simp)
    have : bstep s id (acc, true) b = (acc ++ [b], true) := by simp [bstep, hb]
    rw [this, bfold_true s id X _ fun c hc => h c (List.mem_cons_of_mem _ hc)]; simp
theorem bfold_false (s : ByteArray) (id : Int) : ∀ (X acc : List Bx), Asc (bnms X) →
    (if (X.foldl (bstep s id) (acc, false)).2 = true then (X.foldl (bstep s id) (acc, false)).1 else (X.foldl (bstep s id) (acc, false)).1 ++ [(s, [id])]) = acc ++ insB s id X
  | [], acc, _ => by simp [insB]
  | b :: X, acc, h => by
    have hd := asc_head h
    rw [List.foldl_cons]
    by_cases e : blt s b.1 = true
    · have hb : b.1 ≠ s := fun e2 => blt_ne e e2.symm
      have hX : ∀ c ∈ X, c.1 ≠ s := fun c hc e2 => by
        have h1 := hd.1 c.1 (List.mem_map_of_mem hc)
        rw [e2, blt_asymm e] at h1; cases h1
      have : bstep s id (acc, false) b = (acc ++ [(s, [id])] ++ [b], true) := by simp [bstep, e, hb]
      rw [this, bfold_true s id X _ hX]
      simp [insB, e]
    · by_cases e2 : b.1 = s
      · have hX : ∀ c ∈ X, c.1 ≠ s := fun c hc e3 => by
          have h1 := hd.1 c.1 (List.mem_map_of_mem hc)
          exact blt_ne h1 (e2.trans e3.symm)
        have : bstep s id (acc, false) b = (acc ++ [(s, bput b.2 id)], true) := by
          simp [bstep, e2, blt_irrefl]
        rw [this, bfold_true s id X _ hX]
        simp [insB, e2, blt_irrefl]
      · have : bstep s id (acc, false) b = (acc ++ [b], false) := by
          have e' : blt s b.1 = false := by simpa using e
          simp [bstep, e', e2]
        rw [this, bfold_false s id X _ hd.2]
        simp [insB, e, e2]
theorem bsput_eq {X : List Bx} (h : Asc (bnms X)) (s : ByteArray) (id : Int) : bsput X s id = insB s id X := by
  unfold bsput bst
  rw [List.take_length, bfold_false s id X [] h, List.nil_append]
theorem insB_mem {s t : ByteArray} {id : Int} : ∀ {X : List Bx}, t ∈ bnms (insB s id X) ↔ t = s ∨ t ∈ bnms X
  | [] => by simp [insB, bnms]
  | b :: X => by
    unfold insB
    split
    · simp [bnms]
    · split
      · rename_i h; simp [bnms, h]
      · have ih := insB_mem (s := s) (t := t) (id := id) (X := X)
        unfold bnms at ih ⊢
        rw [List.map_cons, List.mem_cons, ih, List.map_cons, List.mem_cons]
        constructor
        · rintro (h | h | h)
          · exact .inr (.inl h)
          · exact .inl h
          · exact .inr (.inr h)
        · rintro (h | h | h)
          · exact .inr (.inl h)
          · exact .inl h
          · exact .inr (.inr h)
theorem insB_asc {s : ByteArray} {id : Int} : ∀ {X : List Bx}, Asc (bnms X) → Asc (bnms (insB s id X))
  | [], _ => by simp [insB, bnms, Asc]
  | b :: X, h => by
    have hd := asc_head h
    unfold insB
    split
    · rename_i e
      unfold Asc bnms
      rw [List.map_cons, List.pairwise_cons]
      refine ⟨fun t ht => ?_, h⟩
      rcases List.mem_cons.1 (show t ∈ b.1 :: bnms X from ht) with rfl | ht
      · exact e
      · exact blt_trans e (hd.1 t ht)
    · split
      · rename_i e
        unfold Asc bnms
        rw [List.map_cons, List.pairwise_cons]
        rw [← e]
        exact ⟨hd.1, hd.2⟩
      · rename_i e1 e2
        unfold Asc bnms
        rw [List.map_cons, List.pairwise_cons]
        refine ⟨fun t ht => ?_, insB_asc hd.2⟩
        rcases insB_mem.1 ht with rfl | ht
        · cases hb : blt b.1 t
          · exact absurd (blt_tri hb (by simpa using e1)) e2
          · rfl
        · exact hd.1 t ht
theorem insB_get {s : ByteArray} {id : Int} : ∀ {X : List Bx}, Asc (bnms X) → ∀ t, bget (insB s id X) t = if t = s then bput (bget X s) id else bget X t
  | [], _, t => by
    show bget [(s, [id])] t = _
    rw [bget_cons]
    by_cases e : t = s
    · subst e; rw [if_pos rfl, if_pos rfl]; exact (bput_nil id).symm
    · rw [if_neg (fun h => e h.symm), if_neg e]
  | b :: X, h, t => by
    have hd := asc_head h
    unfold insB
    split
    · rename_i e
      have hs : s ∉ bnms (b :: X) := by
        intro hm
        rcases List.mem_cons.1 (show s ∈ b.1 :: bnms X from hm) with h1 | h1
        · exact blt_ne e h1
        · have := hd.1 s h1; rw [blt_asymm e] at this; cases this
      rw [bget_cons]
      by_cases et : t = s
      · subst et; rw [if_pos rfl, if_pos rfl, bget_none hs, bput_nil]
      · rw [if_neg (fun h => et h.symm), if_neg et]
    · split
      · rename_i e
        rw [bget_cons]
        by_cases et : t = s
        · subst et; rw [if_pos rfl, if_pos rfl, bget_cons, if_pos e]
        · rw [if_neg (fun h => et h.symm), if_neg et, bget_cons, if_neg (fun h => et (h.symm.trans e))]
      · rename_i e1 e2
        rw [bget_cons, insB_get hd.2 t]
        by_cases et : t = s
        · subst et; rw [if_neg e2, if_pos rfl, if_pos rfl, bget_cons, if_neg e2]
        · rw [if_neg et, if_neg et, bget_cons]
theorem insB_len {s : ByteArray} {id : Int} : ∀ (X : List Bx), X.length ≤ (insB s id X).length ∧ (insB s id X).length ≤ X.length + 1
  | [] => by simp [insB]
  | b :: X => by
    unfold insB
    have := insB_len (s := s) (id := id) X
    split
    · simp
    · split
      · simp
      · simp; omega
theorem bst_len (s : ByteArray) (id : Int) (X : List Bx) (k : Nat) : (bst s id X k).1.length ≤ 2 * k := by
  induction k with
  | zero => simp [bst_zero]
  | succ k ih =>
    cases h : X[k]? with
    | none =>
      have : bst s id X (k + 1) = bst s id X k := by
        unfold bst
        rw [List.getElem?_eq_none_iff] at h
        rw [List.take_of_length_le (by omega), List.take_of_length_le (by omega)]
      rw [this]; omega
    | some i =>
      rw [bst_succ h]
      have key : ∀ r : List Bx × Bool, (bstep s id r i).1.length ≤ r.1.length + 2 := by
        intro r
        unfold bstep
        generalize hq : (if r.2 = false ∧ blt s i.1 = true then (r.1 ++ [(s, [id])], true) else r) = q
        have hql : q.1.length ≤ r.1.length + 1 := by rw [← hq]; split <;> simp
        show (if i.1 = s then (q.1 ++ [(s, bput i.2 id)], true) else (q.1 ++ [i], q.2)).1.length ≤ r.1.length + 2
        split <;> simp <;> omega
      have := key (bst s id X k)
      omega
def bsPutM (X : List Bx) (s : ByteArray) (id : Int) : Option (List Bx) := if (bxsB X && nvB s && inR id && bxsB (bsput X s id)) = true then some (bsput X s id) else none
theorem bsPutM_1 {X : List Bx} {s : ByteArray} {id : Int} (h : bxsB X = false) : bsPutM X s id = none := by unfold bsPutM; rw [h]; rfl
theorem bsPutM_2 {X : List Bx} {s : ByteArray} {id : Int} (h : nvB s = false) : bsPutM X s id = none := by unfold bsPutM; rw [h, Bool.and_false]; rfl
theorem bsPutM_3 {X : List Bx} {s : ByteArray} {id : Int} (h : inR id = false) : bsPutM X s id = none := by unfold bsPutM; rw [h, Bool.and_false]; rfl
theorem bsPutM_4 {X : List Bx} {s : ByteArray} {id : Int} (h : bxsB (bsput X s id) = false) : bsPutM X s id = none := by unfold bsPutM; rw [h, Bool.and_false]; rfl
theorem bsPutM_t {X : List Bx} {s : ByteArray} {id : Int} (h1 : bxsB X = true) (h2 : nvB s = true) (h3 : inR id = true) (h4 : bxsB (bsput X s id) = true) : bsPutM X s id = some (bsput X s id) := by unfold bsPutM; rw [h1, h2, h3, h4]; rfl
structure BPut (X Y : List Bx) (s : ByteArray) (id : Int) : Prop where
  vx : bxsB X = true
  nv : nvB s = true
  inr : inR id = true
  vy : bxsB Y = true
  eq : Y = insB s id X
theorem bsPutM_some {X Y : List Bx} {s : ByteArray} {id : Int} (h : bsPutM X s id = some Y) : BPut X Y s id := by
  unfold bsPutM at h
  split at h
  · rename_i hc
    rw [Bool.and_eq_true, Bool.and_eq_true, Bool.and_eq_true] at hc
    cases h
    exact ⟨hc.1.1.1, hc.1.1.2, hc.1.2, hc.2, bsput_eq (bxsB_asc hc.1.1.1) s id⟩
  · cases h
section
variable {X Y : List Bx} {s : ByteArray} {id : Int}
theorem BPut.get (h : BPut X Y s id) : bgetM Y s = bput (bgetM X s) id := by
  rw [bgetM_t h.vy, bgetM_t h.vx, h.eq, insB_get (bxsB_asc h.vx), if_pos rfl]
theorem BPut.other (h : BPut X Y s id) {t : ByteArray} (ht : t ≠ s) : bgetM Y t = bgetM X t := by
  rw [bgetM_t h.vy, bgetM_t h.vx, h.eq, insB_get (bxsB_asc h.vx), if_neg ht]
theorem BPut.len (h : BPut X Y s id) : X.length ≤ Y.length ∧ Y.length ≤ X.length + 1 := by rw [h.eq]; exact insB_len X
theorem BPut.again (h : BPut X Y s id) : bsPutM Y s id = some Y := by
  have ha := bxsB_asc h.vx
  have e : insB s id Y = Y := by
    refine bx_ext (insB_asc (bxsB_asc h.vy)) (bxsB_asc h.vy) (fun t => ?_) (fun t => ?_)
    · rw [insB_mem, h.eq, insB_mem]
      constructor
      · intro h
        rcases h with h | h
        · exact .inl h
        · exact h
      · intro h; exact .inr h
    · rw [insB_get (bxsB_asc h.vy)]
      by_cases e : t = s
      · subst e
        rw [if_pos rfl, h.eq, insB_get ha, if_pos rfl, bput_twice (idsB_desc (bget_valid h.vx t))]
      · rw [if_neg e]
  have e2 : bsput Y s id = Y := (bsput_eq (bxsB_asc h.vy) s id).trans e
  rw [bsPutM_t h.vy h.nv h.inr (by rw [e2]; exact h.vy), e2]
end
theorem insB_swap {X : List Bx} (h : bxsB X = true) (s t : ByteArray) (a b : Int) : insB s a (insB t b X) = insB t b (insB s a X) := by
  have ha := bxsB_asc h
  refine bx_ext (insB_asc (insB_asc ha)) (insB_asc (insB_asc ha)) (fun u => ?_) (fun u => ?_)
  · simp only [insB_mem]
    constructor
    · rintro (h | h | h)
      · exact .inr (.inl h)
      · exact .inl h
      · exact .inr (.inr h)
    · rintro (h | h | h)
      · exact .inr (.inl h)
      · exact .inl h
      · exact .inr (.inr h)
  · rw [insB_get (insB_asc ha), insB_get (insB_asc ha), insB_get ha, insB_get ha, insB_get ha, insB_get ha]
    by_cases e1 : u = s
    · subst e1
      by_cases e2 : u = t
      · subst e2
        simp only [if_true]
        exact (bput_swap (idsB_desc (bget_valid h u)) b a)
      · simp [e2]
    · by_cases e2 : u = t
      · subst e2
        simp [e1]
      · simp [e1, e2]
theorem BPut.swap {X Y Z V W : List Bx} {s t : ByteArray} {a b : Int} (h1 : BPut X Y s a) (h2 : bsPutM Y t b = some Z) (h3 : bsPutM X t b = some V) (h4 : bsPutM V s a = some W) : Z = W := by
  have g2 := bsPutM_some h2
  have g3 := bsPutM_some h3
  have g4 := bsPutM_some h4
  rw [g2.eq, h1.eq, g4.eq, g3.eq]
  exact insB_swap h1.vx t s b a
theorem bxsB_drop1 {X : List Bx} (h : bxsB X = true) (k : Nat) : bxsB (X.take k ++ X.drop (k + 1)) = true := by
  have hs : (X.take k ++ X.drop (k + 1)).Sublist X := by
    conv => rhs; rw [← List.take_append_drop k X]
    refine (List.Sublist.refl _).append ?_
    rw [← List.drop_drop]; exact List.drop_sublist _ _
  rw [bxsB_iff]
  exact ⟨Nat.le_trans hs.length_le (bxsB_10 h), fun a ha => (bxsB_iff.1 h).2.1 a (hs.subset ha), List.Pairwise.sublist (hs.map _) (bxsB_asc h)⟩
theorem bxsB_twice {X : List Bx} {k : Nat} (h : k < X.length) : bxsB (X.take (k + 1) ++ X.drop k) = false := by
  have ha : X[k]? = some X[k] := List.getElem?_eq_getElem h
  refine bxsB_turn (k := k) (a := X[k]) (b := X[k]) ?_ ?_ (blt_irrefl _)
  · rw [List.getElem?_append_left (by rw [List.length_take]; omega), List.getElem?_take, if_pos (by omega), ha]
  · rw [List.getElem?_append_right (by rw [List.length_take]; omega), List.length_take, Nat.min_eq_left (by omega), Nat.sub_self, List.getElem?_drop, Nat.add_zero, ha]
end Go.Proofs.Ytimpmlmkhjeajaa

/- Jobs: plain mathematics. -/
set_option linter.unusedVariables false
set_option linter.unusedSimpArgs false
namespace Go.Proofs.Ytimpmlmkhjeajaa
open Go.RowKit

/-- A job: its number, its names, how many are done. -/
abbrev Jb := Int × List ByteArray × Int
def jb0 : Jb := (0, [], 0)
def jbB (j : Jb) : Bool := inR j.1 && nsB j.2.1 && (decide (0 ≤ j.2.2) && decide (j.2.2 ≤ (j.2.1.length : Int)))
theorem jbB_iff {j : Jb} : jbB j = true ↔ inR j.1 = true ∧ nsB j.2.1 = true ∧ 0 ≤ j.2.2 ∧ j.2.2 ≤ (j.2.1.length : Int) := by unfold jbB; simp [and_assoc]
theorem jbB_1 {j : Jb} (h : inR j.1 = false) : jbB j = false := by unfold jbB; rw [h]; rfl
theorem jbB_2 {j : Jb} (h : nsB j.2.1 = false) : jbB j = false := by unfold jbB; rw [h, Bool.and_false]; rfl
theorem jbB_t {j : Jb} (h1 : inR j.1 = true) (h2 : nsB j.2.1 = true) : jbB j = (decide (0 ≤ j.2.2) && decide (j.2.2 ≤ (j.2.1.length : Int))) := by unfold jbB; rw [h1, h2]; rfl
theorem jbB_0 : jbB jb0 = false := rfl
/-- The job of a post. -/
def jNewM (X : List Acc) (who : ByteArray) (id : Int) : Option Jb := if (asB X && memB (nms X) who && inR id) = true then some (id, fol X who, 0) else none
theorem jNew_1 {X : List Acc} {who : ByteArray} {id : Int} (h : asB X = false) : jNewM X who id = none := by unfold jNewM; rw [h]; rfl
theorem jNew_2 {X : List Acc} {who : ByteArray} {id : Int} (h : memB (nms X) who = false) : jNewM X who id = none := by unfold jNewM; rw [h, Bool.and_false]; rfl
theorem jNew_3 {X : List Acc} {who : ByteArray} {id : Int} (h : inR id = false) : jNewM X who id = none := by unfold jNewM; rw [h, Bool.and_false]; rfl
theorem jNew_t {X : List Acc} {who : ByteArray} {id : Int} (h1 : asB X = true) (h2 : memB (nms X) who = true) (h3 : inR id = true) : jNewM X who id = some (id, fol X who, 0) := by unfold jNewM; rw [h1, h2, h3]; rfl
theorem jNew_some {X : List Acc} {who : ByteArray} {id : Int} {j : Jb} (h : jNewM X who id = some j) : asB X = true ∧ who ∈ nms X ∧ inR id = true ∧ j = (id, fol X who, 0) ∧ jbB j = true := by
  unfold jNewM at h
  split at h
  · rename_i hc
    simp only [Bool.and_eq_true, memB_iff] at hc
    cases h
    refine ⟨hc.1.1, hc.1.2, hc.2, rfl, ?_⟩
    rw [jbB_iff]
    exact ⟨hc.2, (fol_valid hc.1.1 hc.1.2).1, Int.le_refl _, by simp⟩
  · cases h

/-- How many are done behind the next ones. -/
def jEnd (j : Jb) (many : Int) : Nat := min j.2.1.length (j.2.2.toNat + many.toNat)
def jNms (j : Jb) (many : Int) : List ByteArray := (j.2.1.take (jEnd j many)).drop j.2.2.toNat
def jTo (j : Jb) (many : Int) : Jb := (j.1, j.2.1, (jEnd j many : Int))
def jNextM (j : Jb) (many : Int) : Option (List ByteArray × Jb) := if (jbB j && decide (0 ≤ many)) = true then some (jNms j many, jTo j many) else none
theorem jNext_1 {j : Jb} {many : Int} (h : jbB j = false) : jNextM j many = none := by unfold jNextM; rw [h]; rfl
theorem jNext_2 {j : Jb} {many : Int} (h : many < 0) : jNextM j many = none := by unfold jNextM; rw [show decide (0 ≤ many) = false by simp; omega, Bool.and_false]; rfl
theorem jNext_t {j : Jb} {many : Int} (h1 : jbB j = true) (h2 : 0 ≤ many) : jNextM j many = some (jNms j many, jTo j many) := by unfold jNextM; rw [h1, show decide (0 ≤ many) = true by simp [h2]]; rfl
/-- What is so where the next ones are told. -/
structure JNext (j : Jb) (many : Int) (N : List ByteArray) (x : Jb) : Prop where
  v : jbB j = true
  m : 0 ≤ many
  nm : N = jNms j many
  to : x = jTo j many
theorem jNext_some {j : Jb} {many : Int} {N : List ByteArray} {x : Jb} (h : jNextM j many = some (N, x)) : JNext j many N x := by
  unfold jNextM at h
  split at h
  · rename_i hc
    simp only [Bool.and_eq_true, decide_eq_true_eq] at hc
    injection h with h
    injection h with h1 h2
    exact ⟨hc.1, hc.2, h1.symm, h2.symm⟩
  · cases h
theorem jb_done {j : Jb} (h : jbB j = true) : ((j.2.2.toNat : Nat) : Int) = j.2.2 ∧ j.2.2.toNat ≤ j.2.1.length := by have := jbB_iff.1 h; omega
theorem jb_10 {j : Jb} (h : jbB j = true) : j.2.1.length ≤ 10 := nsB_le (jbB_iff.1 h).2.1
theorem jEnd_le (j : Jb) (many : Int) : jEnd j many ≤ j.2.1.length := Nat.min_le_left _ _
theorem jEnd_ge {j : Jb} (h : jbB j = true) (many : Int) : j.2.2.toNat ≤ jEnd j many := by have := jb_done h; unfold jEnd; omega
theorem jNms_len {j : Jb} (h : jbB j = true) (many : Int) : (jNms j many).length = jEnd j many - j.2.2.toNat := by
  have := jEnd_le j many
  unfold jNms; rw [List.length_drop, List.length_take]; omega
section
variable {j x : Jb} {many : Int} {N : List ByteArray}
theorem JNext.len (h : JNext j many N x) : N.length = jEnd j many - j.2.2.toNat := by rw [h.nm]; exact jNms_len h.v many
theorem JNext.valid (h : JNext j many N x) : jbB x = true := by
  have h1 := jbB_iff.1 h.v
  have h2 := jEnd_le j many
  rw [h.to, jbB_iff]
  exact ⟨h1.1, h1.2.1, by show (0 : Int) ≤ (jEnd j many : Int); omega, by show (jEnd j many : Int) ≤ _; exact Int.ofNat_le.2 h2⟩
theorem JNext.same (h : JNext j many N x) : x.1 = j.1 ∧ x.2.1 = j.2.1 ∧ x.2.2 = (jEnd j many : Int) := by rw [h.to]; exact ⟨rfl, rfl, rfl⟩
/-- Told at once, or in two parts. -/
theorem JNext.parts (h : JNext j many N x) {k : Int} (h0 : 0 ≤ k) (hk : k ≤ many) : ∃ y M, jNextM j k = some (jNms j k, y) ∧ jNextM y (many - k) = some (M, x) ∧ jNms j k ++ M = N := by
  have hd := jb_done h.v
  have hv : jbB (jTo j k) = true := (JNext.valid ⟨h.v, h0, rfl, rfl⟩)
  have he : jEnd (jTo j k) (many - k) = jEnd j many := by
    unfold jEnd jTo
    simp only [Int.toNat_natCast]
    unfold jEnd
    omega
  have hge := jEnd_ge h.v k
  have hle : jEnd j k ≤ jEnd j many := by unfold jEnd; omega
  refine ⟨jTo j k, jNms (jTo j k) (many - k), jNext_t h.v h0, ?_, ?_⟩
  · rw [jNext_t hv (by omega), h.to]
    unfold jTo
    rw [show jEnd (j.1, j.2.1, (jEnd j k : Int)) (many - k) = jEnd j many from he]
  · rw [h.nm]
    unfold jNms
    rw [he]
    show List.drop _ (List.take _ j.2.1) ++ List.drop (jTo j k).2.2.toNat (List.take _ j.2.1) = _
    rw [show (jTo j k).2.2.toNat = jEnd j k by unfold jTo; simp]
    have e : (j.2.1.take (jEnd j many)) = j.2.1.take (jEnd j k) ++ (j.2.1.take (jEnd j many)).drop (jEnd j k) := by
      conv => lhs; rw [← List.take_append_drop (jEnd j k) (j.2.1.take (jEnd j many))]
      rw [List.take_take, Nat.min_eq_left hle]
    conv => rhs; rw [e]
    rw [List.drop_append_of_le_length (by rw [List.length_take]; have := jEnd_le j k; omega)]
/-- Ten at a time are all. -/
theorem jEnd_all (h : jbB j = true) : jEnd j 10 = j.2.1.length := by
  have := jb_10 h
  have h2 : (10 : Int).toNat = 10 := rfl
  unfold jEnd; rw [h2]; omega
theorem jNext_all (h : jbB j = true) : ∃ A y, jNextM j 10 = some (A, y) ∧ (A.length : Int) = (j.2.1.length : Int) - j.2.2 ∧ y.2.2 = (j.2.1.length : Int) ∧ jNextM y 10 = some ([], y) := by
  have hd := jb_done h
  have hv : jbB (jTo j 10) = true := JNext.valid ⟨h, by omega, rfl, rfl⟩
  have he := jEnd_all h
  have he2 := jEnd_all hv
  have e3 : (jTo j 10).2.2.toNat = j.2.1.length := by show ((jEnd j 10 : Nat) : Int).toNat = _; rw [he]; simp
  have e4 : (jTo j 10).2.1 = j.2.1 := rfl
  refine ⟨jNms j 10, jTo j 10, jNext_t h (by omega), ?_, ?_, ?_⟩
  · rw [jNms_len h, he]; omega
  · show ((jEnd j 10 : Nat) : Int) = _; rw [he]
  · rw [jNext_t hv (by omega)]
    have h1 : jNms (jTo j 10) 10 = [] := List.eq_nil_of_length_eq_zero (by rw [jNms_len hv, he2, e3, e4]; omega)
    have h2 : jTo (jTo j 10) 10 = jTo j 10 := by
      show ((jTo j 10).1, (jTo j 10).2.1, ((jEnd (jTo j 10) 10 : Nat) : Int)) = (j.1, j.2.1, ((jEnd j 10 : Nat) : Int))
      rw [he2, he, e4]; rfl
    rw [h1, h2]
/-- None at a time changes nothing. -/
theorem jNext_none (h : jbB j = true) : jNextM j 0 = some ([], j) := by
  have hd := jb_done h
  have he : jEnd j 0 = j.2.2.toNat := by unfold jEnd; have : (0 : Int).toNat = 0 := rfl; omega
  rw [jNext_t h (by omega)]
  have h1 : jNms j 0 = [] := List.eq_nil_of_length_eq_zero (by rw [jNms_len h, he]; omega)
  have h2 : jTo j 0 = j := by
    obtain ⟨a, b, c⟩ := j
    show (a, b, ((jEnd (a, b, c) 0 : Nat) : Int)) = (a, b, c)
    rw [he, hd.1]
  rw [h1, h2]
/-- A new job has all names next. -/
theorem jNew_next {X : List Acc} {who : ByteArray} {id : Int} (h : jNewM X who id = some j) : ∃ y, jNextM j 10 = some (folM X who, y) := by
  obtain ⟨h1, h2, h3, rfl, h5⟩ := jNew_some h
  refine ⟨jTo (id, fol X who, 0) 10, (jNext_t h5 (by omega)).trans ?_⟩
  have : jNms (id, fol X who, 0) 10 = folM X who := by
    rw [folM_t h1]
    unfold jNms
    rw [jEnd_all h5]
    simp
  rw [this]
theorem JNext.told (h : JNext j many N x) : N = (j.2.1.drop j.2.2.toNat).take N.length ∧ x.2.2 = j.2.2 + N.length ∧ ((N.length : Int) = many ∨ ((N.length : Int) < many ∧ x.2.2 = (j.2.1.length : Int))) := by
  have hd := jb_done h.v
  have hl := h.len
  have hge := jEnd_ge h.v many
  have hle := jEnd_le j many
  have hx := h.same.2.2
  refine ⟨?_, by omega, ?_⟩
  · rw [hl]
    conv => lhs; rw [h.nm]
    unfold jNms
    rw [List.drop_take]
  · have hm := h.m
    have : jEnd j many = min j.2.1.length (j.2.2.toNat + many.toNat) := rfl
    omega
theorem jb_more (h : jbB j = true) : jbB (j.1, j.2.1, (j.2.1.length : Int) + 1) = false ∧ jbB (j.1, j.2.1, -1) = false := by
  refine ⟨?_, ?_⟩
  · rw [← Bool.not_eq_true, jbB_iff]; intro hh; have := hh.2.2.2; simp at this; omega
  · rw [← Bool.not_eq_true, jbB_iff]; intro hh; have := hh.2.2.1; simp at this
end

/-- A post comes to names. -/
def runB (id : Int) : List ByteArray → List Bx → Option (List Bx)
  | [], B => some B
  | s :: S, B => (bsPutM B s id).bind (runB id S)
theorem runB_app (id : Int) : ∀ (S T : List ByteArray) (B : List Bx), runB id (S ++ T) B = (runB id S B).bind (runB id T)
  | [], T, B => rfl
  | s :: S, T, B => by
    show (bsPutM B s id).bind (runB id (S ++ T)) = ((bsPutM B s id).bind (runB id S)).bind (runB id T)
    cases bsPutM B s id with
    | none => rfl
    | some Y => exact runB_app id S T Y
theorem runB_snoc {id : Int} {S : List ByteArray} {s : ByteArray} {B : List Bx} : runB id (S ++ [s]) B = (runB id S B).bind fun O => bsPutM O s id := by
  rw [runB_app]
  cases runB id S B with
  | none => rfl
  | some O => show (bsPutM O s id).bind (runB id []) = bsPutM O s id; cases bsPutM O s id <;> rfl
theorem runB_stop {id : Int} {S : List ByteArray} {s : ByteArray} {B O : List Bx} {k : Nat} (h : runB id (S.take k) B = some O) (hs : S[k]? = some s) (hn : bsPutM O s id = none) : runB id S B = none := by
  have e : S = S.take k ++ (s :: S.drop (k + 1)) := by
    obtain ⟨hk, e1⟩ := List.getElem?_eq_some_iff.1 hs
    rw [← e1, ← List.drop_eq_getElem_cons hk, List.take_append_drop]
  rw [e, runB_app, h]
  show (bsPutM O s id).bind (runB id (S.drop (k + 1))) = none
  rw [hn]; rfl
theorem runB_step {id : Int} {S : List ByteArray} {s : ByteArray} {B O Y : List Bx} {k : Nat} (h : runB id (S.take k) B = some O) (hs : S[k]? = some s) (hn : bsPutM O s id = some Y) : runB id (S.take (k + 1)) B = some Y := by
  rw [List.take_add_one, hs]
  show runB id (S.take k ++ [s]) B = some Y
  rw [runB_snoc, h]; exact hn
structure Ran (id : Int) (S : List ByteArray) (B O : List Bx) : Prop where
  val : bxsB O = true
  got : ∀ t, t ∈ S → bgetM O t = bput (bgetM B t) id
  out : ∀ t, t ∉ S → bgetM O t = bgetM B t
  nm : ∀ t, t ∈ bnms O ↔ t ∈ S ∨ t ∈ bnms B
  ok : ∀ s ∈ S, nvB s = true ∧ inR id = true
theorem ran_of {id : Int} : ∀ {S : List ByteArray} {B O : List Bx}, S.Nodup → bxsB B = true → runB id S B = some O → Ran id S B O
  | [], B, O, _, hB, h => by
    have e : B = O := by injection h
    subst e
    exact ⟨hB, fun t ht => by simp at ht, fun t _ => rfl, fun t => by simp, fun s hs => by simp at hs⟩
  | s :: S, B, O, hn, hB, h => by
    have hn' := List.nodup_cons.1 hn
    have h' : (bsPutM B s id).bind (runB id S) = some O := h
    rw [Option.bind_eq_some_iff] at h'
    obtain ⟨Y, hY, hO⟩ := h'
    have hp := bsPutM_some hY
    have ih := ran_of hn'.2 hp.vy hO
    refine ⟨ih.val, fun t ht => ?_, fun t ht => ?_, fun t => ?_, fun t ht => ?_⟩
    · by_cases e : t = s
      · subst e
        rw [ih.out t hn'.1, hp.get]
      · rw [ih.got t (by rcases List.mem_cons.1 ht with h1 | h1; exact absurd h1 e; exact h1), hp.other e]
    · rw [ih.out t (fun h1 => ht (List.mem_cons_of_mem _ h1)), hp.other (fun e => ht (e ▸ List.mem_cons_self ..))]
    · rw [ih.nm, hp.eq, insB_mem, List.mem_cons]
      constructor
      · rintro (h1 | h1 | h1)
        · exact .inl (.inr h1)
        · exact .inl (.inl h1)
        · exact .inr h1
      · rintro ((h1 | h1) | h1)
        · exact .inr (.inl h1)
        · exact .inl h1
        · exact .inr (.inr h1)
    · rcases List.mem_cons.1 ht with h1 | h1
      · exact h1 ▸ ⟨hp.nv, hp.inr⟩
      · exact ih.ok t h1
theorem bput_same {X : List Bx} {s : ByteArray} {id : Int} (hX : bxsB X = true) (hs : nvB s = true) (hi : inR id = true) (hm : s ∈ bnms X) (hb : bput (bget X s) id = bget X s) : bsPutM X s id = some X := by
  have ha := bxsB_asc hX
  have e : insB s id X = X := by
    refine bx_ext (insB_asc ha) ha (fun t => ?_) (fun t => ?_)
    · rw [insB_mem]
      exact ⟨fun h => by rcases h with rfl | h; exact hm; exact h, .inr⟩
    · rw [insB_get ha]
      split
      · rename_i h; rw [h, hb]
      · rfl
  have e2 : bsput X s id = X := (bsput_eq ha s id).trans e
  rw [bsPutM_t hX hs hi (by rw [e2]; exact hX), e2]
theorem Ran.again {id : Int} {S : List ByteArray} {B O : List Bx} (h : Ran id S B O) (hB : bxsB B = true) : ∀ {T : List ByteArray}, (∀ t ∈ T, t ∈ S) → runB id T O = some O
  | [], _ => rfl
  | t :: T, hT => by
    have htS := hT t (List.mem_cons_self ..)
    have h1 := h.ok t htS
    have hg := h.got t htS
    rw [bgetM_t h.val] at hg
    have hd : Desc (bgetM B t) := by rw [bgetM_t hB]; exact idsB_desc (bget_valid hB t)
    have e : bsPutM O t id = some O := bput_same h.val h1.1 h1.2 ((h.nm t).2 (.inl htS)) (by rw [hg, bput_twice hd])
    show (bsPutM O t id).bind (runB id T) = some O
    rw [e]
    exact h.again hB fun u hu => hT u (List.mem_cons_of_mem _ hu)
/-- A job runs. -/
def jRunM (B : List Bx) (j : Jb) (many : Int) : Option (List Bx × Jb) := (jNextM j many).bind fun r => if bxsB B = true then (runB j.1 r.1 B).map fun o => (o, r.2) else none
theorem jRun_1 {B : List Bx} {j : Jb} {many : Int} (h : jNextM j many = none) : jRunM B j many = none := by unfold jRunM; rw [h]; rfl
theorem jRun_2 {B : List Bx} {j : Jb} {many : Int} (h : bxsB B = false) : jRunM B j many = none := by
  unfold jRunM
  cases jNextM j many with
  | none => rfl
  | some r => simp [h]
theorem jRun_3 {B : List Bx} {j x : Jb} {many : Int} {N : List ByteArray} (h : jNextM j many = some (N, x)) (hB : bxsB B = true) : jRunM B j many = (runB j.1 N B).map fun o => (o, x) := by
  unfold jRunM; rw [h]; simp [hB]
theorem nsB_nodup {L : List ByteArray} (h : nsB L = true) : L.Nodup := (nsB_asc h).nodup
structure JRun (B : List Bx) (j : Jb) (many : Int) (O : List Bx) (x : Jb) (N : List ByteArray) : Prop where
  vb : bxsB B = true
  nx : jNextM j many = some (N, x)
  jn : JNext j many N x
  run : runB j.1 N B = some O
  nd : N.Nodup
  ran : Ran j.1 N B O
theorem jRun_some {B O : List Bx} {j x : Jb} {many : Int} (h : jRunM B j many = some (O, x)) : ∃ N, JRun B j many O x N := by
  unfold jRunM at h
  rw [Option.bind_eq_some_iff] at h
  obtain ⟨⟨N, y⟩, h1, h2⟩ := h
  by_cases hB : bxsB B = true
  · rw [if_pos hB, Option.map_eq_some_iff] at h2
    obtain ⟨O', h3, h4⟩ := h2
    injection h4 with h4 h5
    subst h4 h5
    have hj := jNext_some h1
    have hnd : N.Nodup := by
      rw [hj.nm]
      unfold jNms
      exact ((nsB_nodup (jbB_iff.1 hj.v).2.1).sublist (List.take_sublist _ _)).sublist (List.drop_sublist _ _)
    exact ⟨N, hB, h1, hj, h3, hnd, ran_of hnd hB h3⟩
  · rw [if_neg hB] at h2; cases h2
section
variable {B O : List Bx} {j x : Jb} {many : Int} {N : List ByteArray}
theorem JRun.again (h : JRun B j many O x N) : jRunM O j many = some (O, x) := by
  rw [jRun_3 h.nx h.ran.val, h.ran.again h.vb (fun t ht => ht)]; rfl
theorem JRun.none_ (h : JRun B j many O x N) : jRunM B j 0 = some (B, j) := by
  rw [jRun_3 (jNext_none h.jn.v) h.vb]; rfl
theorem JRun.on (h : JRun B j many O x N) {k : Int} (h0 : 0 ≤ k) (hk : k ≤ many) : ∃ Y y, jRunM B j k = some (Y, y) ∧ jRunM Y y (many - k) = some (O, x) := by
  obtain ⟨y, M, h1, h2, h3⟩ := h.jn.parts h0 hk
  have hr := h.run
  rw [← h3, runB_app, Option.bind_eq_some_iff] at hr
  obtain ⟨Y, h4, h5⟩ := hr
  have hj1 := jNext_some h1
  have hnd : (jNms j k).Nodup := by have := h.nd; rw [← h3] at this; exact (List.nodup_append.1 this).1
  refine ⟨Y, y, ?_, ?_⟩
  · rw [jRun_3 h1 h.vb, h4]; rfl
  · rw [jRun_3 h2 (ran_of hnd h.vb h4).val, hj1.same.1, h5]; rfl
theorem JRun.got (h : JRun B j many O x N) {s : ByteArray} (hs : s ∈ N) : bPutM (bgetM B s) j.1 = some (bgetM O s) := by
  rw [h.ran.got s hs]
  exact bPutM_t (by rw [bgetM_t h.vb]; exact bget_valid h.vb s) (h.ran.ok s hs).2
theorem JRun.other (h : JRun B j many O x N) {k : Nat} {a : Bx} (ha : B[k]? = some a) (hs : a.1 ∉ N) : bgetM O a.1 = a.2 := by
  rw [h.ran.out _ hs, bgetM_t h.vb]
  exact bget_at (bxsB_asc h.vb) ha
end
end Go.Proofs.Ytimpmlmkhjeajaa
