/- Numbers of a box: plain mathematics. -/
import Derived.Test.YtmofnmklodmkmaaGreatDoorOrd
namespace Go.Proofs.YtmofnmklodmkmaaGreatDoor
open Go.RowKit

def inR (i : Int) : Bool := decide (1 ≤ i) && decide (i ≤ 999)
theorem inR_iff {i : Int} : inR i = true ↔ 1 ≤ i ∧ i ≤ 999 := by unfold inR; simp
theorem inR_t {i : Int} (h1 : 1 ≤ i) (h2 : i ≤ 999) : inR i = true := inR_iff.2 ⟨h1, h2⟩
theorem inR_f {i : Int} (h : i < 1 ∨ 999 < i) : inR i = false := by rw [← Bool.not_eq_true, inR_iff]; omega
/-- Numbers descend. -/
abbrev Desc (L : List Int) : Prop := L.Pairwise (· > ·)
/-- Valid numbers of a box. -/
def idsB (L : List Int) : Bool := decide (L.length ≤ 6) && L.all inR && decide (Desc L)
theorem idsB_iff {L : List Int} : idsB L = true ↔ L.length ≤ 6 ∧ (∀ i ∈ L, inR i = true) ∧ Desc L := by unfold idsB; simp [and_assoc]
theorem idsB_f {L : List Int} (h : ¬(L.length ≤ 6 ∧ (∀ i ∈ L, inR i = true) ∧ Desc L)) : idsB L = false := by rw [← Bool.not_eq_true, idsB_iff]; exact h
theorem idsB_len {L : List Int} (h : 6 < L.length) : idsB L = false := idsB_f fun hh => by omega
theorem idsB_bad {L : List Int} {k : Nat} {i : Int} (hi : L[k]? = some i) (h : inR i = false) : idsB L = false :=
  idsB_f fun hh => by rw [hh.2.1 i (List.mem_of_getElem? hi)] at h; cases h
theorem desc_gt {L : List Int} (hp : Desc L) {j k : Nat} {a b : Int} (ha : L[j]? = some a) (hb : L[k]? = some b) (hjk : j < k) : b < a := by
  obtain ⟨j1, e1⟩ := List.getElem?_eq_some_iff.1 ha
  obtain ⟨k1, e2⟩ := List.getElem?_eq_some_iff.1 hb
  have := List.pairwise_iff_getElem.1 hp j k j1 k1 hjk
  rw [e1, e2] at this; exact this
theorem idsB_turn {L : List Int} {k : Nat} {a b : Int} (ha : L[k]? = some a) (hb : L[k + 1]? = some b) (h : a ≤ b) : idsB L = false :=
  idsB_f fun hh => by have := desc_gt hh.2.2 ha hb (Nat.lt_succ_self k); omega
theorem idsB_6 {L : List Int} (h : idsB L = true) : L.length ≤ 6 := (idsB_iff.1 h).1
theorem idsB_desc {L : List Int} (h : idsB L = true) : Desc L := (idsB_iff.1 h).2.2
theorem idsB_in {L : List Int} (h : idsB L = true) {i : Int} (hi : i ∈ L) : 1 ≤ i ∧ i ≤ 999 := inR_iff.1 ((idsB_iff.1 h).2.1 i hi)
theorem idsB_nil : idsB [] = true := rfl
/-- The first k numbers are valid and descend. -/
def IUpto (L : List Int) (k : Nat) : Prop := ∀ j a, j < k → L[j]? = some a → inR a = true ∧ ∀ b, j + 1 < k → L[j + 1]? = some b → b < a
theorem IUpto.zero (L : List Int) : IUpto L 0 := fun j _ h => absurd h (by omega)
theorem IUpto.one {L : List Int} {a : Int} (ha : L[0]? = some a) (h : inR a = true) : IUpto L 1 := fun j t hj ht => by
  obtain rfl : j = 0 := by omega
  rw [ha] at ht; cases ht
  exact ⟨h, fun _ hh => absurd hh (by omega)⟩
theorem IUpto.more {L : List Int} {k : Nat} {a b : Int} (hu : IUpto L (k + 1)) (ha : L[k]? = some a) (hb : L[k + 1]? = some b) (h : inR b = true) (hl : b < a) : IUpto L (k + 2) := fun j t hj ht => by
  by_cases e : j = k + 1
  · subst e; rw [hb] at ht; cases ht; exact ⟨h, fun _ hh => absurd hh (by omega)⟩
  · refine ⟨(hu j t (by omega) ht).1, fun u hju hu2 => ?_⟩
    by_cases e2 : j = k
    · subst e2; rw [ha] at ht; rw [hb] at hu2; cases ht; cases hu2; exact hl
    · exact (hu j t (by omega) ht).2 u (by omega) hu2
theorem desc_of {L : List Int} (h : ∀ k a b, L[k]? = some a → L[k + 1]? = some b → b < a) : Desc L := by
  unfold Desc
  rw [List.pairwise_iff_getElem]
  intro i j hi hj hij
  obtain ⟨d, rfl⟩ : ∃ d, j = i + 1 + d := ⟨j - i - 1, by omega⟩
  induction d with
  | zero => exact h i _ _ (List.getElem?_eq_getElem hi) (List.getElem?_eq_getElem hj)
  | succ d ih =>
    have h1 := ih (by omega) (by omega)
    have h2 := h (i + 1 + d) _ _ (List.getElem?_eq_getElem (by omega)) (List.getElem?_eq_getElem hj)
    omega
theorem IUpto.all {L : List Int} (h : IUpto L L.length) (hl : L.length ≤ 6) : idsB L = true := by
  rw [idsB_iff]
  refine ⟨hl, fun s hs => ?_, desc_of fun k a b ha hb => ?_⟩
  · obtain ⟨j, hj, rfl⟩ := List.mem_iff_getElem.1 hs
    exact (h j _ hj (List.getElem?_eq_getElem hj)).1
  · have h1 := (List.getElem?_eq_some_iff.1 hb).1
    exact (h k _ (by omega) ha).2 _ h1 hb

/-- One round of putting a number: what there is, whether it was put. -/
def pstep (id : Int) (r : List Int × Bool) (i : Int) : List Int × Bool :=
  let r := if r.2 = false ∧ i ≤ id then (r.1 ++ [id], true) else r
  if i ≠ id then (r.1 ++ [i], r.2) else r
def pst (id : Int) (L : List Int) (k : Nat) : List Int × Bool := (L.take k).foldl (pstep id) ([], false)
def bput (L : List Int) (id : Int) : List Int := (if (pst id L L.length).2 = true then (pst id L L.length).1 else (pst id L L.length).1 ++ [id]).take 6
theorem pst_zero (id : Int) (L : List Int) : pst id L 0 = ([], false) := rfl
theorem pst_succ {id : Int} {L : List Int} {k : Nat} {i : Int} (h : L[k]? = some i) : pst id L (k + 1) = pstep id (pst id L k) i := by
  unfold pst; rw [List.take_add_one, h]; simp
theorem pst_len (id : Int) (L : List Int) (k : Nat) : (pst id L k).1.length ≤ 2 * k := by
  induction k with
  | zero => simp [pst_zero]
  | succ k ih =>
    cases h : L[k]? with
    | none =>
      have : pst id L (k + 1) = pst id L k := by
        unfold pst
        rw [List.getElem?_eq_none_iff] at h
        rw [List.take_of_length_le (by omega), List.take_of_length_le (by omega)]
      rw [this]; omega
    | some i =>
      rw [pst_succ h]
      have key : ∀ r : List Int × Bool, (pstep id r i).1.length ≤ r.1.length + 2 := by
        intro r
        unfold pstep
        by_cases h1 : r.2 = false ∧ i ≤ id <;> by_cases h2 : i ≠ id <;> simp [h1, h2] <;> omega
      have := key (pst id L k)
      omega

/-- A number put into numbers that descend. -/
def insD (id : Int) : List Int → List Int
  | [] => [id]
  | m :: M => if m < id then id :: m :: M else if m = id then m :: M else m :: insD id M
theorem fold_true (id : Int) : ∀ (M acc : List Int), M.foldl (pstep id) (acc, true) = (acc ++ M.filter (fun i => decide (i ≠ id)), true)
  | [], acc => by simp
  | m :: M, acc => by
    rw [List.foldl_cons]
    by_cases e : m = id
    · have : pstep id (acc, true) m = (acc, true) := by simp [pstep, e]
      rw [this, fold_true id M acc]; simp [e]
    · have : pstep id (acc, true) m = (acc ++ [m], true) := by simp [pstep, e]
      rw [this, fold_true id M]; simp [e]
theorem fold_false (id : Int) : ∀ (M acc : List Int), Desc M →
    (if (M.foldl (pstep id) (acc, false)).2 = true then (M.foldl (pstep id) (acc, false)).1 else (M.foldl (pstep id) (acc, false)).1 ++ [id]) = acc ++ insD id M
  | [], acc, _ => by simp [insD]
  | m :: M, acc, h => by
    have hd := List.pairwise_cons.1 h
    rw [List.foldl_cons]
    by_cases e : m ≤ id
    · have hne : ∀ i ∈ M, i ≠ id := fun i hi e2 => by have := hd.1 i hi; omega
      have hf : M.filter (fun i => decide (i ≠ id)) = M := List.filter_eq_self.2 fun i hi => by simpa using hne i hi
      by_cases e2 : m = id
      · have : pstep id (acc, false) m = (acc ++ [id], true) := by simp [pstep, e2]
        rw [this, fold_true, hf]
        simp [insD, e2]
      · have : pstep id (acc, false) m = (acc ++ [id] ++ [m], true) := by simp [pstep, e, e2]
        rw [this, fold_true, hf]
        have hlt : m < id := by omega
        simp [insD, hlt]
    · have : pstep id (acc, false) m = (acc ++ [m], false) := by
        have : m ≠ id := by omega
        simp [pstep, e, this]
      rw [this, fold_false id M (acc ++ [m]) hd.2]
      have h1 : ¬ m < id := by omega
      have h2 : m ≠ id := by omega
      simp [insD, h1, h2]
theorem bput_eq {L : List Int} (h : Desc L) (id : Int) : bput L id = (insD id L).take 6 := by
  unfold bput pst
  rw [List.take_length, fold_false id L [] h, List.nil_append]
theorem insD_mem {id x : Int} : ∀ {M : List Int}, x ∈ insD id M ↔ x = id ∨ x ∈ M
  | [] => by simp [insD]
  | m :: M => by
    unfold insD
    split
    · simp
    · split
      · rename_i h; subst h; simp
      · simp only [List.mem_cons, insD_mem (M := M)]
        constructor
        · rintro (h | h | h)
          · exact .inr (.inl h)
          · exact .inl h
          · exact .inr (.inr h)
        · rintro (h | h | h)
          · exact .inr (.inl h)
          · exact .inl h
          · exact .inr (.inr h)
theorem insD_desc {id : Int} : ∀ {M : List Int}, Desc M → Desc (insD id M)
  | [], _ => by simp [insD]
  | m :: M, h => by
    have hd := List.pairwise_cons.1 h
    unfold insD
    split
    · rename_i hlt
      refine List.pairwise_cons.2 ⟨fun x hx => ?_, h⟩
      rcases List.mem_cons.1 hx with rfl | hx
      · exact hlt
      · have := hd.1 x hx; omega
    · split
      · exact h
      · refine List.pairwise_cons.2 ⟨fun x hx => ?_, insD_desc hd.2⟩
        rcases insD_mem.1 hx with rfl | hx
        · omega
        · exact hd.1 x hx
theorem insD_len (id : Int) : ∀ (M : List Int), M.length ≤ (insD id M).length ∧ (insD id M).length ≤ M.length + 1
  | [] => by simp [insD]
  | m :: M => by
    unfold insD
    have := insD_len id M
    split
    · simp
    · split
      · simp
      · simp; omega
theorem desc_ext : ∀ {L M : List Int}, Desc L → Desc M → (∀ x, x ∈ L ↔ x ∈ M) → L = M
  | [], [], _, _, _ => rfl
  | [], m :: M, _, _, h => absurd ((h m).2 (by simp)) (by simp)
  | l :: L, [], _, _, h => absurd ((h l).1 (by simp)) (by simp)
  | l :: L, m :: M, hL, hM, h => by
    have dL := List.pairwise_cons.1 hL
    have dM := List.pairwise_cons.1 hM
    have e : l = m := by
      rcases List.mem_cons.1 ((h l).1 (by simp)) with e | e
      · exact e
      · rcases List.mem_cons.1 ((h m).2 (by simp)) with e2 | e2
        · exact e2.symm
        · have h1 := dM.1 l e; have h2 := dL.1 m e2; omega
    subst e
    rw [desc_ext dL.2 dM.2 fun x => ?_]
    have hx := h x
    constructor
    · intro hm
      rcases List.mem_cons.1 (hx.1 (List.mem_cons_of_mem _ hm)) with e | e
      · have := dL.1 x hm; omega
      · exact e
    · intro hm
      rcases List.mem_cons.1 (hx.2 (List.mem_cons_of_mem _ hm)) with e | e
      · have := dM.1 x hm; omega
      · exact e
theorem take_desc {M : List Int} (h : Desc M) (n : Nat) : Desc (M.take n) := List.Pairwise.sublist (List.take_sublist _ _) h
/-- Only the first n count for the first n. -/
theorem insD_take (id : Int) : ∀ (n : Nat) (M : List Int), (insD id (M.take n)).take n = (insD id M).take n
  | 0, M => by simp
  | n + 1, [] => by simp
  | n + 1, m :: M => by
    rw [List.take_succ_cons]
    unfold insD
    split
    · rw [List.take_succ_cons, List.take_succ_cons]
      congr 1
      cases n with
      | zero => simp
      | succ n => rw [List.take_succ_cons, List.take_succ_cons, List.take_take, Nat.min_eq_left (by omega)]
    · split
      · rw [List.take_succ_cons, List.take_succ_cons, List.take_take, Nat.min_self]
      · rw [List.take_succ_cons, List.take_succ_cons, insD_take id n M]
theorem insD_comm {a b : Int} {M : List Int} (h : Desc M) : insD a (insD b M) = insD b (insD a M) :=
  desc_ext (insD_desc (insD_desc h)) (insD_desc (insD_desc h)) fun x => by
    simp only [insD_mem]
    constructor
    · rintro (h | h | h)
      · exact .inr (.inl h)
      · exact .inl h
      · exact .inr (.inr h)
    · rintro (h | h | h)
      · exact .inr (.inl h)
      · exact .inl h
      · exact .inr (.inr h)
theorem insD_twice {a : Int} {M : List Int} (h : Desc M) : insD a (insD a M) = insD a M :=
  desc_ext (insD_desc (insD_desc h)) (insD_desc h) fun x => by
    simp only [insD_mem]
    constructor
    · intro h
      rcases h with h | h
      · exact .inl h
      · exact h
    · intro h; exact .inr h
theorem bput_desc {L : List Int} (h : Desc L) (id : Int) : Desc (bput L id) := by rw [bput_eq h]; exact take_desc (insD_desc h) 6
theorem bput_mem {L : List Int} (h : Desc L) {id x : Int} (hx : x ∈ bput L id) : x = id ∨ x ∈ L := by
  rw [bput_eq h] at hx; exact insD_mem.1 (List.mem_of_mem_take hx)
theorem bput_valid {L : List Int} (h : idsB L = true) {id : Int} (hi : inR id = true) : idsB (bput L id) = true := by
  rw [idsB_iff]
  refine ⟨?_, fun x hx => ?_, bput_desc (idsB_desc h) id⟩
  · rw [bput_eq (idsB_desc h), List.length_take]; omega
  · rcases bput_mem (idsB_desc h) hx with rfl | hx
    · exact hi
    · exact (idsB_iff.1 h).2.1 x hx
theorem bput_ge {L : List Int} (h : idsB L = true) (id : Int) : L.length ≤ (bput L id).length := by
  rw [bput_eq (idsB_desc h), List.length_take]
  have := insD_len id L
  have := idsB_6 h
  omega
theorem bput_ne {L : List Int} (h : Desc L) (id : Int) : bput L id ≠ [] := by
  rw [bput_eq h]
  intro e
  have h1 := congrArg List.length e
  rw [List.length_take, List.length_nil] at h1
  have hm : id ∈ insD id L := insD_mem.2 (.inl rfl)
  have := List.length_pos_of_mem hm
  omega
theorem bput_twice {L : List Int} (h : Desc L) (id : Int) : bput (bput L id) id = bput L id := by
  rw [bput_eq (bput_desc h id), bput_eq h, insD_take, insD_twice h]
theorem bput_swap {L : List Int} (h : Desc L) (a b : Int) : bput (bput L a) b = bput (bput L b) a := by
  rw [bput_eq (bput_desc h a), bput_eq h, insD_take, bput_eq (bput_desc h b), bput_eq h, insD_take, insD_comm h]
theorem bput_nil (id : Int) : bput [] id = [id] := by rw [bput_eq List.Pairwise.nil]; simp [insD]
/-- What was put is there, or the box is full of newer ones. -/
theorem bput_there {L : List Int} (h : Desc L) (id : Int) : id ∈ bput L id ∨ ((bput L id).length = 6 ∧ ∃ x, (bput L id)[5]? = some x ∧ id < x) := by
  rw [bput_eq h]
  by_cases hm : id ∈ (insD id L).take 6
  · exact .inl hm
  · right
    have hall : id ∈ insD id L := insD_mem.2 (.inl rfl)
    obtain ⟨j, hj, ej⟩ := List.mem_iff_getElem.1 hall
    have hj6 : 6 ≤ j := by
      rcases Nat.lt_or_ge j 6 with hl | hl
      · exact absurd (List.mem_iff_getElem?.2 ⟨j, by rw [List.getElem?_take, if_pos hl, List.getElem?_eq_getElem hj, ej]⟩) hm
      · exact hl
    have h5 : (insD id L)[5]? = some ((insD id L)[5]'(by omega)) := List.getElem?_eq_getElem _
    refine ⟨by rw [List.length_take]; omega, _, by rw [List.getElem?_take, if_pos (by omega)]; exact h5, ?_⟩
    exact desc_gt (insD_desc h) h5 (by rw [List.getElem?_eq_getElem hj, ej]) (by omega)
def bPutM (L : List Int) (id : Int) : Option (List Int) := if (idsB L && inR id) = true then some (bput L id) else none
theorem bPutM_1 {L : List Int} {id : Int} (h : idsB L = false) : bPutM L id = none := by unfold bPutM; rw [h]; rfl
theorem bPutM_2 {L : List Int} {id : Int} (h : inR id = false) : bPutM L id = none := by unfold bPutM; rw [h, Bool.and_false]; rfl
theorem bPutM_t {L : List Int} {id : Int} (h1 : idsB L = true) (h2 : inR id = true) : bPutM L id = some (bput L id) := by unfold bPutM; rw [h1, h2]; rfl
theorem bPutM_some {L M : List Int} {id : Int} (h : bPutM L id = some M) : idsB L = true ∧ inR id = true ∧ M = bput L id := by
  unfold bPutM at h
  split at h
  · rename_i hc
    rw [Bool.and_eq_true] at hc
    cases h
    exact ⟨hc.1, hc.2, rfl⟩
  · cases h
end Go.Proofs.YtmofnmklodmkmaaGreatDoor
