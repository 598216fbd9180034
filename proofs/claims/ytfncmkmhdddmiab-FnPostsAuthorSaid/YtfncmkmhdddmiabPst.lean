/- Posts: plain mathematics. -/
import Derived.Test.YtfncmkmhdddmiabOrd
namespace Go.Proofs.Ytfncmkmhdddmiab
open Go.RowKit

/-- A post: its number, its author. -/
abbrev Pst := Int × ByteArray
def pstB (p : Pst) : Bool := decide (1 ≤ p.1) && decide (p.1 ≤ 999) && nvB p.2
def ids (X : List Pst) : List Int := X.map (·.1)
/-- Valid posts. -/
def psB (X : List Pst) : Bool := decide (X.length ≤ 12) && X.all pstB && decide ((ids X).Pairwise (· < ·))
theorem pstB_iff {p : Pst} : pstB p = true ↔ 1 ≤ p.1 ∧ p.1 ≤ 999 ∧ nvB p.2 = true := by unfold pstB; simp [and_assoc]
theorem psB_iff {X : List Pst} : psB X = true ↔ X.length ≤ 12 ∧ (∀ a ∈ X, pstB a = true) ∧ (ids X).Pairwise (· < ·) := by unfold psB; simp [and_assoc]
theorem psB_f {X : List Pst} (h : ¬(X.length ≤ 12 ∧ (∀ a ∈ X, pstB a = true) ∧ (ids X).Pairwise (· < ·))) : psB X = false := by
  rw [← Bool.not_eq_true, psB_iff]; exact h
theorem psB_len {X : List Pst} (h : 12 < X.length) : psB X = false := psB_f fun hh => by omega
theorem psB_bad {X : List Pst} {k : Nat} {a : Pst} (ha : X[k]? = some a) (h : pstB a = false) : psB X = false :=
  psB_f fun hh => by rw [hh.2.1 a (List.mem_of_getElem? ha)] at h; cases h
theorem ids_len (X : List Pst) : (ids X).length = X.length := List.length_map _
theorem ids_at {X : List Pst} {k : Nat} {a : Pst} (h : X[k]? = some a) : (ids X)[k]? = some a.1 := by unfold ids; rw [List.getElem?_map, h]; rfl
theorem ids_lt {X : List Pst} (hp : (ids X).Pairwise (· < ·)) {j k : Nat} {a b : Pst} (ha : X[j]? = some a) (hb : X[k]? = some b) (hjk : j < k) : a.1 < b.1 := by
  have h1 := ids_at ha
  have h2 := ids_at hb
  obtain ⟨j1, e1⟩ := List.getElem?_eq_some_iff.1 h1
  obtain ⟨k1, e2⟩ := List.getElem?_eq_some_iff.1 h2
  have := List.pairwise_iff_getElem.1 hp j k j1 k1 hjk
  rw [e1, e2] at this; exact this
theorem psB_turn {X : List Pst} {k : Nat} {a b : Pst} (ha : X[k]? = some a) (hb : X[k + 1]? = some b) (h : b.1 ≤ a.1) : psB X = false :=
  psB_f fun hh => by have := ids_lt hh.2.2 ha hb (Nat.lt_succ_self k); omega
theorem psB_12 {X : List Pst} (h : psB X = true) : X.length ≤ 12 := (psB_iff.1 h).1
theorem psB_pst {X : List Pst} (h : psB X = true) {a : Pst} (ha : a ∈ X) : 1 ≤ a.1 ∧ a.1 ≤ 999 ∧ nvB a.2 = true := pstB_iff.1 ((psB_iff.1 h).2.1 a ha)
theorem psB_asc {X : List Pst} (h : psB X = true) : (ids X).Pairwise (· < ·) := (psB_iff.1 h).2.2
theorem pstB_t {a : Pst} (h1 : 1 ≤ a.1) (h2 : a.1 ≤ 999) (h3 : nvB a.2 = true) : pstB a = true := pstB_iff.2 ⟨h1, h2, h3⟩
theorem pstB_1 {a : Pst} (h : a.1 < 1) : pstB a = false := by rw [← Bool.not_eq_true, pstB_iff]; omega
theorem pstB_2 {a : Pst} (h : 999 < a.1) : pstB a = false := by rw [← Bool.not_eq_true, pstB_iff]; omega
theorem pstB_3 {a : Pst} (h : nvB a.2 = false) : pstB a = false := by rw [← Bool.not_eq_true, pstB_iff, h]; simp
/-- The first k posts are valid and ascend. -/
def PUpto (X : List Pst) (k : Nat) : Prop := ∀ j a, j < k → X[j]? = some a → pstB a = true ∧ ∀ b, j + 1 < k → X[j + 1]? = some b → a.1 < b.1
theorem PUpto.zero (X : List Pst) : PUpto X 0 := fun j _ h => absurd h (by omega)
theorem PUpto.one {X : List Pst} {a : Pst} (ha : X[0]? = some a) (h : pstB a = true) : PUpto X 1 := fun j t hj ht => by
  obtain rfl : j = 0 := by omega
  rw [ha] at ht; cases ht
  exact ⟨h, fun _ hh => absurd hh (by omega)⟩
theorem PUpto.more {X : List Pst} {k : Nat} {a b : Pst} (hu : PUpto X (k + 1)) (ha : X[k]? = some a) (hb : X[k + 1]? = some b) (h : pstB b = true) (hl : a.1 < b.1) : PUpto X (k + 2) := fun j t hj ht => by
  by_cases e : j = k + 1
  · subst e; rw [hb] at ht; cases ht; exact ⟨h, fun _ hh => absurd hh (by omega)⟩
  · refine ⟨(hu j t (by omega) ht).1, fun u hju hu2 => ?_⟩
    by_cases e2 : j = k
    · subst e2; rw [ha] at ht; rw [hb] at hu2; cases ht; cases hu2; exact hl
    · exact (hu j t (by omega) ht).2 u (by omega) hu2
theorem asc_int {L : List Int} (h : ∀ k a b, L[k]? = some a → L[k + 1]? = some b → a < b) : L.Pairwise (· < ·) := by
  rw [List.pairwise_iff_getElem]
  intro i j hi hj hij
  obtain ⟨d, rfl⟩ : ∃ d, j = i + 1 + d := ⟨j - i - 1, by omega⟩
  induction d with
  | zero => exact h i _ _ (List.getElem?_eq_getElem hi) (List.getElem?_eq_getElem hj)
  | succ d ih =>
    have h1 := ih (by omega) (by omega)
    have h2 := h (i + 1 + d) _ _ (List.getElem?_eq_getElem (by omega)) (List.getElem?_eq_getElem hj)
    omega
theorem PUpto.all {X : List Pst} (h : PUpto X X.length) (hl : X.length ≤ 12) : psB X = true := by
  rw [psB_iff]
  refine ⟨hl, fun s hs => ?_, asc_int fun k a b ha hb => ?_⟩
  · obtain ⟨j, hj, rfl⟩ := List.mem_iff_getElem.1 hs
    exact (h j _ hj (List.getElem?_eq_getElem hj)).1
  · have h1 := (List.getElem?_eq_some_iff.1 hb).1
    rw [ids_len] at h1
    have e1 := ids_at (List.getElem?_eq_getElem (l := X) (i := k) (by omega))
    have e2 := ids_at (List.getElem?_eq_getElem (l := X) (i := k + 1) (by omega))
    rw [e1] at ha; rw [e2] at hb; cases ha; cases hb
    exact (h k _ (by omega) (List.getElem?_eq_getElem (by omega))).2 _ h1 (List.getElem?_eq_getElem h1)

/-- The numbers of the posts of an author, as they come. -/
def idsOf (R : List Pst) (s : ByteArray) : List Int := ids (R.filter fun a => decide (a.2 = s))
theorem idsOf_nil (s : ByteArray) : idsOf [] s = [] := rfl
theorem idsOf_yes {R : List Pst} {k : Nat} {a : Pst} (h : R[k]? = some a) {s : ByteArray} (e : a.2 = s) : idsOf (R.take (k + 1)) s = idsOf (R.take k) s ++ [a.1] := by
  rw [List.take_add_one, h]; simp [idsOf, ids, e]
theorem idsOf_no {R : List Pst} {k : Nat} {a : Pst} (h : R[k]? = some a) {s : ByteArray} (e : a.2 ≠ s) : idsOf (R.take (k + 1)) s = idsOf (R.take k) s := by
  rw [List.take_add_one, h]; simp [idsOf, ids, e]
def pOfM (X : List Pst) (s : ByteArray) : List Int := if psB X = true then idsOf X.reverse s else []
theorem pOfM_t {X : List Pst} {s : ByteArray} (h : psB X = true) : pOfM X s = idsOf X.reverse s := by unfold pOfM; rw [if_pos h]
theorem pOfM_f {X : List Pst} {s : ByteArray} (h : psB X = false) : pOfM X s = [] := by unfold pOfM; rw [h]; rfl
theorem idsOf_len (R : List Pst) (s : ByteArray) : (idsOf R s).length ≤ R.length := by unfold idsOf; rw [ids_len]; exact List.length_filter_le _ _
theorem pOfM_len (X : List Pst) (s : ByteArray) : (pOfM X s).length ≤ X.length := by
  unfold pOfM; split
  · have := idsOf_len X.reverse s; rw [List.length_reverse] at this; exact this
  · exact Nat.zero_le _
theorem idsOf_mem {R : List Pst} {s : ByteArray} {i : Int} : i ∈ idsOf R s ↔ (i, s) ∈ R := by
  unfold idsOf ids
  simp only [List.mem_map, List.mem_filter, decide_eq_true_eq]
  constructor
  · rintro ⟨a, ⟨h1, rfl⟩, rfl⟩; exact h1
  · intro h; exact ⟨_, ⟨h, rfl⟩, rfl⟩
/-- The author of a number. -/
def pAut (X : List Pst) (i : Int) : ByteArray := ((X.find? fun a => decide (a.1 = i)).map (·.2)).getD { data := #[] }
def pAutM (X : List Pst) (i : Int) : ByteArray := if psB X = true then pAut X i else { data := #[] }
theorem pAutM_t {X : List Pst} {i : Int} (h : psB X = true) : pAutM X i = pAut X i := by unfold pAutM; rw [if_pos h]
theorem pAutM_f {X : List Pst} {i : Int} (h : psB X = false) : pAutM X i = { data := #[] } := by unfold pAutM; rw [h]; rfl
theorem pAut_none {X : List Pst} {i : Int} (h : ∀ a ∈ X, a.1 ≠ i) : pAut X i = { data := #[] } := by
  unfold pAut
  have : X.find? (fun a => decide (a.1 = i)) = none := by
    rw [List.find?_eq_none]; intro a ha; simpa using h a ha
  rw [this]; rfl
theorem pAut_at {X : List Pst} {k : Nat} {a : Pst} (hp : (ids X).Pairwise (· < ·)) (h : X[k]? = some a) : pAut X a.1 = a.2 := by
  unfold pAut
  have : X.find? (fun b => decide (b.1 = a.1)) = some a := by
    cases hf : X.find? (fun b => decide (b.1 = a.1)) with
    | none =>
      rw [List.find?_eq_none] at hf
      exact absurd (hf a (List.mem_of_getElem? h)) (by simp)
    | some b =>
      have hb := List.find?_some hf
      simp only [decide_eq_true_eq] at hb
      obtain ⟨j, hj, e⟩ := List.mem_iff_getElem.1 (List.mem_of_find?_eq_some hf)
      have hjb : X[j]? = some b := by rw [List.getElem?_eq_getElem hj, e]
      rcases Nat.lt_trichotomy j k with hl | hl | hl
      · have := ids_lt hp hjb h hl; omega
      · subst hl; rw [hjb] at h; cases h; rfl
      · have := ids_lt hp h hjb hl; omega
  rw [this]; rfl
/-- The next number; a further post. -/
def nextI (X : List Pst) : Int := match X.getLast? with | none => 1 | some a => a.1 + 1
def pAddM (X : List Pst) (s : ByteArray) : Option (List Pst) := if (psB X && psB (X ++ [(nextI X, s)])) = true then some (X ++ [(nextI X, s)]) else none
theorem nextI_nil : nextI [] = 1 := rfl
theorem last_at {X : List Pst} (h : 0 < X.length) : ∃ a, X[X.length - 1]? = some a ∧ nextI X = a.1 + 1 := by
  refine ⟨X[X.length - 1]'(by omega), List.getElem?_eq_getElem _, ?_⟩
  unfold nextI
  rw [List.getLast?_eq_getElem?, List.getElem?_eq_getElem (by omega)]
theorem pAdd_1 {X : List Pst} {s : ByteArray} (h : psB X = false) : pAddM X s = none := by unfold pAddM; rw [h]; rfl
theorem pAdd_2 {X : List Pst} {s : ByteArray} (h : psB (X ++ [(nextI X, s)]) = false) : pAddM X s = none := by unfold pAddM; rw [h, Bool.and_false]; rfl
theorem pAdd_3 {X : List Pst} {s : ByteArray} (h : nvB s = false) : pAddM X s = none :=
  pAdd_2 (psB_bad (k := X.length) (a := (nextI X, s)) (by rw [List.getElem?_append_right (Nat.le_refl _), Nat.sub_self]; rfl) (pstB_3 h))
theorem pAdd_t {X : List Pst} {s : ByteArray} (h1 : psB X = true) (h2 : psB (X ++ [(nextI X, s)]) = true) : pAddM X s = some (X ++ [(nextI X, s)]) := by unfold pAddM; rw [h1, h2]; rfl
structure Added (X Y : List Pst) (s : ByteArray) : Prop where
  vx : psB X = true
  vy : psB Y = true
  eq : Y = X ++ [(nextI X, s)]
theorem added {X Y : List Pst} {s : ByteArray} (h : pAddM X s = some Y) : Added X Y s := by
  unfold pAddM at h
  split at h
  · rename_i hc
    rw [Bool.and_eq_true] at hc
    cases h
    exact ⟨hc.1, hc.2, rfl⟩
  · cases h
theorem Added.at' {X Y : List Pst} {s : ByteArray} (h : Added X Y s) : Y[X.length]? = some (nextI X, s) := by
  rw [h.eq, List.getElem?_append_right (Nat.le_refl _), Nat.sub_self]; rfl
theorem Added.len {X Y : List Pst} {s : ByteArray} (h : Added X Y s) : Y.length = X.length + 1 := by rw [h.eq]; simp
theorem Added.take {X Y : List Pst} {s : ByteArray} (h : Added X Y s) : Y.take X.length = X := by rw [h.eq]; simp
theorem Added.room {X Y : List Pst} {s : ByteArray} (h : Added X Y s) : 1 ≤ nextI X ∧ nextI X ≤ 999 ∧ nvB s = true := psB_pst h.vy (List.mem_of_getElem? h.at')
theorem Added.author {X Y : List Pst} {s : ByteArray} (h : Added X Y s) : pAutM Y (nextI X) = s := by
  rw [pAutM_t h.vy]; exact pAut_at (psB_asc h.vy) h.at'
theorem Added.of {X Y : List Pst} {s : ByteArray} (h : Added X Y s) : pOfM Y s = nextI X :: pOfM X s := by
  rw [pOfM_t h.vy, pOfM_t h.vx, h.eq, List.reverse_append]
  simp [idsOf, ids]
/-- Numbers of an author descend. -/
theorem idsOf_desc {X : List Pst} (hp : (ids X).Pairwise (· < ·)) (s : ByteArray) : (idsOf X.reverse s).Pairwise (· > ·) := by
  unfold idsOf ids
  have h1 : (X.reverse.map (·.1)).Pairwise (· > ·) := by
    rw [List.map_reverse, List.pairwise_reverse]; exact hp
  exact List.Pairwise.sublist (List.Sublist.map _ List.filter_sublist) h1
theorem psB_drop1 {X : List Pst} (h : psB X = true) (k : Nat) : psB (X.take k ++ X.drop (k + 1)) = true := by
  have hs : (X.take k ++ X.drop (k + 1)).Sublist X := by
    conv => rhs; rw [← List.take_append_drop k X]
    refine (List.Sublist.refl _).append ?_
    rw [← List.drop_drop]; exact List.drop_sublist _ _
  rw [psB_iff]
  exact ⟨Nat.le_trans hs.length_le (psB_12 h), fun a ha => (psB_iff.1 h).2.1 a (hs.subset ha), List.Pairwise.sublist (hs.map _) (psB_asc h)⟩
theorem psB_twice {X : List Pst} {k : Nat} (h : k < X.length) : psB (X.take (k + 1) ++ X.drop k) = false := by
  have ha : X[k]? = some X[k] := List.getElem?_eq_getElem h
  refine psB_turn (k := k) (a := X[k]) (b := X[k]) ?_ ?_ (Int.le_refl _)
  · rw [List.getElem?_append_left (by rw [List.length_take]; omega), List.getElem?_take, if_pos (by omega), ha]
  · rw [List.getElem?_append_right (by rw [List.length_take]; omega), List.length_take, Nat.min_eq_left (by omega), Nat.sub_self, List.getElem?_drop, Nat.add_zero, ha]
/-- How many there are. -/
theorem count_len (X : List Pst) (s : ByteArray) : (idsOf X.reverse s).length = (X.filter fun a => decide (a.2 = s)).length := by
  unfold idsOf; rw [ids_len, List.filter_reverse, List.length_reverse]
end Go.Proofs.Ytfncmkmhdddmiab
