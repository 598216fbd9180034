/- Boxes: plain mathematics. -/
import Derived.Test.YtfncmkmhdddmiaaBxi
namespace Go.Proofs.Ytfncmkmhdddmiaa
open Go.RowKit

/-- A box: its name, its numbers. -/
abbrev Bx := ByteArray × List Int
def bxB (b : Bx) : Bool := nvB b.1 && idsB b.2 && !b.2.isEmpty
def bnms (X : List Bx) : List ByteArray := X.map (·.1)
/-- Valid boxes. -/
def bxsB (X : List Bx) : Bool := decide (X.length ≤ 10) && X.all bxB && decide (Asc (bnms X))
theorem bxB_iff {b : Bx} : bxB b = true ↔ nvB b.1 = true ∧ idsB b.2 = true ∧ b.2 ≠ [] := by
  unfold bxB
  rw [Bool.and_eq_true, Bool.and_eq_true, Bool.not_eq_true', ← Bool.not_eq_true, List.isEmpty_iff, and_assoc]
theorem bxB_1 {b : Bx} (h : nvB b.1 = false) : bxB b = false := by unfold bxB; rw [h]; rfl
theorem bxB_2 {b : Bx} (h : idsB b.2 = false) : bxB b = false := by unfold bxB; rw [h, Bool.and_false]; rfl
theorem bxB_3 {b : Bx} (h : b.2 = []) : bxB b = false := by unfold bxB; rw [h]; simp
theorem bxB_t {b : Bx} (h1 : nvB b.1 = true) (h2 : idsB b.2 = true) (h3 : b.2 ≠ []) : bxB b = true := bxB_iff.2 ⟨h1, h2, h3⟩
theorem bxsB_iff {X : List Bx} : bxsB X = true ↔ X.length ≤ 10 ∧ (∀ a ∈ X, bxB a = true) ∧ Asc (bnms X) := by unfold bxsB; simp [and_assoc]
theorem bxsB_f {X : List Bx} (h : ¬(X.length ≤ 10 ∧ (∀ a ∈ X, bxB a = true) ∧ Asc (bnms X))) : bxsB X = false := by rw [← Bool.not_eq_true, bxsB_iff]; exact h
theorem bxsB_len {X : List Bx} (h : 10 < X.length) : bxsB X = false := bxsB_f fun hh => by omega
theorem bxsB_bad {X : List Bx} {k : Nat} {a : Bx} (ha : X[k]? = some a) (h : bxB a = false) : bxsB X = false :=
  bxsB_f fun hh => by rw [hh.2.1 a (List.mem_of_getElem? ha)] at h; cases h
theorem bnms_at {X : List Bx} {k : Nat} {a : Bx} (h : X[k]? = some a) : (bnms X)[k]? = some a.1 := by unfold bnms; rw [List.getElem?_map, h]; rfl
theorem bnms_len (X : List Bx) : (bnms X).length = X.length := List.length_map _
theorem bxsB_turn {X : List Bx} {k : Nat} {a b : Bx} (ha : X[k]? = some a) (hb : X[k + 1]? = some b) (h : blt a.1 b.1 = false) : bxsB X = false :=
  bxsB_f fun hh => by rw [asc_iff.1 hh.2.2 k a.1 b.1 (bnms_at ha) (bnms_at hb)] at h; cases h
theorem bxsB_10 {X : List Bx} (h : bxsB X = true) : X.length ≤ 10 := (bxsB_iff.1 h).1
theorem bxsB_bx {X : List Bx} (h : bxsB X = true) {a : Bx} (ha : a ∈ X) : nvB a.1 = true ∧ idsB a.2 = true ∧ a.2 ≠ [] := bxB_iff.1 ((bxsB_iff.1 h).2.1 a ha)
theorem bxsB_asc {X : List Bx} (h : bxsB X = true) : Asc (bnms X) := (bxsB_iff.1 h).2.2
/-- The first k boxes are valid and ascend. -/
def BUpto (X : List Bx) (k : Nat) : Prop := ∀ j a, j < k → X[j]? = some a → bxB a = true ∧ ∀ b, j + 1 < k → X[j + 1]? = some b → blt a.1 b.1 = true
theorem BUpto.zero (X : List Bx) : BUpto X 0 := fun j _ h => absurd h (by omega)
theorem BUpto.one {X : List Bx} {a : Bx} (ha : X[0]? = some a) (h : bxB a = true) : BUpto X 1 := fun j t hj ht => by
  obtain rfl : j = 0 := by omega
  rw [ha] at ht; cases ht
  exact ⟨h, fun _ hh => absurd hh (by omega)⟩
theorem BUpto.more {X : List Bx} {k : Nat} {a b : Bx} (hu : BUpto X (k + 1)) (ha : X[k]? = some a) (hb : X[k + 1]? = some b) (h : bxB b = true) (hl : blt a.1 b.1 = true) : BUpto X (k + 2) := fun j t hj ht => by
  by_cases e : j = k + 1
  · subst e; rw [hb] at ht; cases ht; exact ⟨h, fun _ hh => absurd hh (by omega)⟩
  · refine ⟨(hu j t (by omega) ht).1, fun u hju hu2 => ?_⟩
    by_cases e2 : j = k
    · subst e2; rw [ha] at ht; rw [hb] at hu2; cases ht; cases hu2; exact hl
    · exact (hu j t (by omega) ht).2 u (by omega) hu2
theorem BUpto.all {X : List Bx} (h : BUpto X X.length) (hl : X.length ≤ 10) : bxsB X = true := by
  rw [bxsB_iff]
  refine ⟨hl, fun s hs => ?_, asc_iff.2 fun k a b ha hb => ?_⟩
  · obtain ⟨j, hj, rfl⟩ := List.mem_iff_getElem.1 hs
    exact (h j _ hj (List.getElem?_eq_getElem hj)).1
  · have h1 := (List.getElem?_eq_some_iff.1 hb).1
    rw [bnms_len] at h1
    have e1 := bnms_at (List.getElem?_eq_getElem (l := X) (i := k) (by omega))
    have e2 := bnms_at (List.getElem?_eq_getElem (l := X) (i := k + 1) (by omega))
    rw [e1] at ha; rw [e2] at hb; cases ha; cases hb
    exact (h k _ (by omega) (List.getElem?_eq_getElem (by omega))).2 _ h1 (List.getElem?_eq_getElem h1)

/-- The numbers of a name. -/
def bget (X : List Bx) (s : ByteArray) : List Int := ((X.find? fun a => decide (a.1 = s)).map (·.2)).getD []
def bgetM (X : List Bx) (s : ByteArray) : List Int := if bxsB X = true then bget X s else []
theorem bgetM_t {X : List Bx} {s : ByteArray} (h : bxsB X = true) : bgetM X s = bget X s := by unfold bgetM; rw [if_pos h]
theorem bgetM_f {X : List Bx} {s : ByteArray} (h : bxsB X = false) : bgetM X s = [] := by unfold bgetM; rw [h]; rfl
theorem bget_cons (a : Bx) (X : List Bx) (s : ByteArray) : bget (a :: X) s = if a.1 = s then a.2 else bget X s := by
  unfold bget
  rw [List.find?_cons]
  by_cases e : a.1 = s <;> simp [e]
theorem bget_none {X : List Bx} {s : ByteArray} (h : s ∉ bnms X) : bget X s = [] := by
  induction X with
  | nil => rfl
  | cons a X ih =>
    rw [bget_cons]
    unfold bnms at h ih
    rw [List.map_cons, List.mem_cons] at h
    rw [if_neg (fun e => h (.inl e.symm)), ih (fun e => h (.inr e))]
theorem bnms_mem {X : List Bx} {s : ByteArray} (h : s ∈ bnms X) : ∃ (k : Nat) (L : List Int), X[k]? = some (s, L) := by
  unfold bnms at h
  obtain ⟨a, ha, rfl⟩ := List.mem_map.1 h
  obtain ⟨k, hk, e⟩ := List.mem_iff_getElem.1 ha
  exact ⟨k, a.2, by rw [List.getElem?_eq_getElem hk, e]⟩
theorem asc_head {a : Bx} {X : List Bx} (h : Asc (bnms (a :: X))) : (∀ t ∈ bnms X, blt a.1 t = true) ∧ Asc (bnms X) := by
  unfold Asc bnms at h ⊢
  rw [List.map_cons, List.pairwise_cons] at h
  exact h
theorem bget_at : ∀ {X : List Bx} {k : Nat} {a : Bx}, Asc (bnms X) → X[k]? = some a → bget X a.1 = a.2
  | [], k, a, _, h => by simp at h
  | b :: X, 0, a, _, h => by simp at h; subst h; rw [bget_cons, if_pos rfl]
  | b :: X, k + 1, a, hA, h => by
    have h' : X[k]? = some a := by simpa using h
    have hh := asc_head hA
    rw [bget_cons, if_neg (fun e => ?_), bget_at hh.2 h']
    exact blt_ne (hh.1 a.1 (List.mem_map_of_mem (List.mem_of_getElem? h'))) e
theorem bget_valid {X : List Bx} (h : bxsB X = true) (s : ByteArray) : idsB (bget X s) = true := by
  by_cases hs : s ∈ bnms X
  · obtain ⟨k, L, hk⟩ := bnms_mem hs
    have := bget_at (bxsB_asc h) hk
    rw [show (s, L).1 = s from rfl] at this
    rw [this]
    exact (bxsB_bx h (List.mem_of_getElem? hk)).2.1
  · rw [bget_none hs]; exact idsB_nil
/-- Boxes with the same names and the same numbers are the same. -/
theorem bx_ext : ∀ {X Y : List Bx}, Asc (bnms X) → Asc (bnms Y) → (∀ t, t ∈ bnms X ↔ t ∈ bnms Y) → (∀ t, bget X t = bget Y t) → X = Y
  | [], [], _, _, _, _ => rfl
  | [], m :: M, _, _, h, _ => absurd ((h m.1).2 (by simp [bnms])) (by simp [bnms])
  | l :: L, [], _, _, h, _ => absurd ((h l.1).1 (by simp [bnms])) (by simp [bnms])
  | l :: L, m :: M, hL, hM, h, hg => by
    have dL := asc_head hL
    have dM := asc_head hM
    have e : l.1 = m.1 := by
      rcases List.mem_cons.1 (show l.1 ∈ m.1 :: bnms M from (h l.1).1 (by simp [bnms])) with e | e
      · exact e
      · rcases List.mem_cons.1 (show m.1 ∈ l.1 :: bnms L from (h m.1).2 (by simp [bnms])) with e2 | e2
        · exact e2.symm
        · have h1 := dM.1 _ e; have h2 := dL.1 _ e2; rw [blt_asymm h1] at h2; cases h2
    have e2 : l.2 = m.2 := by
      have := hg l.1
      rw [bget_cons, if_pos rfl, bget_cons, if_pos e.symm] at this
      exact this
    have hlm : l = m := Prod.ext e e2
    subst hlm
    rw [bx_ext dL.2 dM.2 (fun t => ?_) (fun t => ?_)]
    · have ht := h t
      constructor
      · intro hm
        rcases List.mem_cons.1 (show t ∈ l.1 :: bnms M from ht.1 (List.mem_cons_of_mem _ hm)) with e | e
        · exact absurd e.symm (blt_ne (dL.1 t hm))
        · exact e
      · intro hm
        rcases List.mem_cons.1 (show t ∈ l.1 :: bnms L from ht.2 (List.mem_cons_of_mem _ hm)) with e | e
        · exact absurd e.symm (blt_ne (dM.1 t hm))
        · exact e
    · have hgt := hg t
      rw [bget_cons, bget_cons] at hgt
      by_cases et : l.1 = t
      · subst et
        rw [bget_none (fun hm => absurd rfl (blt_ne (dL.1 _ hm))), bget_none (fun hm => absurd rfl (blt_ne (dM.1 _ hm)))]
      · rw [if_neg et, if_neg et] at hgt; exact hgt

/-- A number put into the box of a name. -/
def insB (s : ByteArray) (id : Int) : List Bx → List Bx
  | [] => [(s, [id])]
  | b :: X => if blt s b.1 = true then (s, [id]) :: b :: X else if b.1 = s then (s, bput b.2 id) :: X else b :: insB s id X
/-- One round of it as a loop has it. -/
def bstep (s : ByteArray) (id : Int) (r : List Bx × Bool) (b : Bx) : List Bx × Bool :=
  let r := if r.2 = false ∧ blt s b.1 = true then (r.1 ++ [(s, [id])], true) else r
  if b.1 = s then (r.1 ++ [(s, bput b.2 id)], true) else (r.1 ++ [b], r.2)
def bst (s : ByteArray) (id : Int) (X : List Bx) (k : Nat) : List Bx × Bool := (X.take k).foldl (bstep s id) ([], false)
def bsput (X : List Bx) (s : ByteArray) (id : Int) : List Bx := if (bst s id X X.length).2 = true then (bst s id X X.length).1 else (bst s id X X.length).1 ++ [(s, [id])]
theorem bst_zero (s : ByteArray) (id : Int) (X : List Bx) : bst s id X 0 = ([], false) := rfl
theorem bst_succ {s : ByteArray} {id : Int} {X : List Bx} {k : Nat} {b : Bx} (h : X[k]? = some b) : bst s id X (k + 1) = bstep s id (bst s id X k) b := by
  unfold bst; rw [List.take_add_one, h]; simp
theorem bfold_true (s : ByteArray) (id : Int) : ∀ (X acc : List Bx), (∀ b ∈ X, b.1 ≠ s) → X.foldl (bstep s id) (acc, true) = (acc ++ X, true)
  | [], acc, _ => by simp
  | b :: X, acc, h => by
    rw [List.foldl_cons]
    have hb := h b (by simp)
    have : bstep s id (acc, true) b = (acc ++ [b], true) := by simp [bstep, hb]
    rw [this, bfold_true s id X _ fun c hc => h c (List.mem_cons_of_mem _ hc)]; simp
theorem bfold_false (s : ByteArray) (id : Int) : ∀ (X acc : List Bx), Asc (bnms X) →
    (if (X.foldl (bstep s id) (acc, false)).2 = true then (X.foldl (bstep s id) (acc, false)).1 else (X.foldl (bstep s id) (acc, false)).1 ++ [(s, [id])]) = acc ++ insB s id X
  | [], acc, _ => by simp [insB]
  | b :: X, acc, h => by
    have hd := asc_head h
    rw [List.foldl_cons]
    by_cases e : blt s b.1 = true
    · have hb : b.1 ≠ s := fun e2 => blt_ne e e2.symm
      have hX : ∀ c ∈ X, c.1 ≠ s := fun c hc e2 => by
        have h1 := hd.1 c.1 (List.mem_map_of_mem hc)
        rw [e2, blt_asymm e] at h1; cases h1
      have : bstep s id (acc, false) b = (acc ++ [(s, [id])] ++ [b], true) := by simp [bstep, e, hb]
      rw [this, bfold_true s id X _ hX]
      simp [insB, e]
    · by_cases e2 : b.1 = s
      · have hX : ∀ c ∈ X, c.1 ≠ s := fun c hc e3 => by
          have h1 := hd.1 c.1 (List.mem_map_of_mem hc)
          exact blt_ne h1 (e2.trans e3.symm)
        have : bstep s id (acc, false) b = (acc ++ [(s, bput b.2 id)], true) := by
          simp [bstep, e2, blt_irrefl]
        rw [this, bfold_true s id X _ hX]
        simp [insB, e2, blt_irrefl]
      · have : bstep s id (acc, false) b = (acc ++ [b], false) := by
          have e' : blt s b.1 = false := by simpa using e
          simp [bstep, e', e2]
        rw [this, bfold_false s id X _ hd.2]
        simp [insB, e, e2]
theorem bsput_eq {X : List Bx} (h : Asc (bnms X)) (s : ByteArray) (id : Int) : bsput X s id = insB s id X := by
  unfold bsput bst
  rw [List.take_length, bfold_false s id X [] h, List.nil_append]
theorem insB_mem {s t : ByteArray} {id : Int} : ∀ {X : List Bx}, t ∈ bnms (insB s id X) ↔ t = s ∨ t ∈ bnms X
  | [] => by simp [insB, bnms]
  | b :: X => by
    unfold insB
    split
    · simp [bnms]
    · split
      · rename_i h; simp [bnms, h]
      · have ih := insB_mem (s := s) (t := t) (id := id) (X := X)
        unfold bnms at ih ⊢
        rw [List.map_cons, List.mem_cons, ih, List.map_cons, List.mem_cons]
        constructor
        · rintro (h | h | h)
          · exact .inr (.inl h)
          · exact .inl h
          · exact .inr (.inr h)
        · rintro (h | h | h)
          · exact .inr (.inl h)
          · exact .inl h
          · exact .inr (.inr h)
theorem insB_asc {s : ByteArray} {id : Int} : ∀ {X : List Bx}, Asc (bnms X) → Asc (bnms (insB s id X))
  | [], _ => by simp [insB, bnms, Asc]
  | b :: X, h => by
    have hd := asc_head h
    unfold insB
    split
    · rename_i e
      unfold Asc bnms
      rw [List.map_cons, List.pairwise_cons]
      refine ⟨fun t ht => ?_, h⟩
      rcases List.mem_cons.1 (show t ∈ b.1 :: bnms X from ht) with rfl | ht
      · exact e
      · exact blt_trans e (hd.1 t ht)
    · split
      · rename_i e
        unfold Asc bnms
        rw [List.map_cons, List.pairwise_cons]
        rw [← e]
        exact ⟨hd.1, hd.2⟩
      · rename_i e1 e2
        unfold Asc bnms
        rw [List.map_cons, List.pairwise_cons]
        refine ⟨fun t ht => ?_, insB_asc hd.2⟩
        rcases insB_mem.1 ht with rfl | ht
        · cases hb : blt b.1 t
          · exact absurd (blt_tri hb (by simpa using e1)) e2
          · rfl
        · exact hd.1 t ht
theorem insB_get {s : ByteArray} {id : Int} : ∀ {X : List Bx}, Asc (bnms X) → ∀ t, bget (insB s id X) t = if t = s then bput (bget X s) id else bget X t
  | [], _, t => by
    show bget [(s, [id])] t = _
    rw [bget_cons]
    by_cases e : t = s
    · subst e; rw [if_pos rfl, if_pos rfl]; exact (bput_nil id).symm
    · rw [if_neg (fun h => e h.symm), if_neg e]
  | b :: X, h, t => by
    have hd := asc_head h
    unfold insB
    split
    · rename_i e
      have hs : s ∉ bnms (b :: X) := by
        intro hm
        rcases List.mem_cons.1 (show s ∈ b.1 :: bnms X from hm) with h1 | h1
        · exact blt_ne e h1
        · have := hd.1 s h1; rw [blt_asymm e] at this; cases this
      rw [bget_cons]
      by_cases et : t = s
      · subst et; rw [if_pos rfl, if_pos rfl, bget_none hs, bput_nil]
      · rw [if_neg (fun h => et h.symm), if_neg et]
    · split
      · rename_i e
        rw [bget_cons]
        by_cases et : t = s
        · subst et; rw [if_pos rfl, if_pos rfl, bget_cons, if_pos e]
        · rw [if_neg (fun h => et h.symm), if_neg et, bget_cons, if_neg (fun h => et (h.symm.trans e))]
      · rename_i e1 e2
        rw [bget_cons, insB_get hd.2 t]
        by_cases et : t = s
        · subst et; rw [if_neg e2, if_pos rfl, if_pos rfl, bget_cons, if_neg e2]
        · rw [if_neg et, if_neg et, bget_cons]
theorem insB_len {s : ByteArray} {id : Int} : ∀ (X : List Bx), X.length ≤ (insB s id X).length ∧ (insB s id X).length ≤ X.length + 1
  | [] => by simp [insB]
  | b :: X => by
    unfold insB
    have := insB_len (s := s) (id := id) X
    split
    · simp
    · split
      · simp
      · simp; omega
theorem bst_len (s : ByteArray) (id : Int) (X : List Bx) (k : Nat) : (bst s id X k).1.length ≤ 2 * k := by
  induction k with
  | zero => simp [bst_zero]
  | succ k ih =>
    cases h : X[k]? with
    | none =>
      have : bst s id X (k + 1) = bst s id X k := by
        unfold bst
        rw [List.getElem?_eq_none_iff] at h
        rw [List.take_of_length_le (by omega), List.take_of_length_le (by omega)]
      rw [this]; omega
    | some i =>
      rw [bst_succ h]
      have key : ∀ r : List Bx × Bool, (bstep s id r i).1.length ≤ r.1.length + 2 := by
        intro r
        unfold bstep
        generalize hq : (if r.2 = false ∧ blt s i.1 = true then (r.1 ++ [(s, [id])], true) else r) = q
        have hql : q.1.length ≤ r.1.length + 1 := by rw [← hq]; split <;> simp
        show (if i.1 = s then (q.1 ++ [(s, bput i.2 id)], true) else (q.1 ++ [i], q.2)).1.length ≤ r.1.length + 2
        split <;> simp <;> omega
      have := key (bst s id X k)
      omega
def bsPutM (X : List Bx) (s : ByteArray) (id : Int) : Option (List Bx) := if (bxsB X && nvB s && inR id && bxsB (bsput X s id)) = true then some (bsput X s id) else none
theorem bsPutM_1 {X : List Bx} {s : ByteArray} {id : Int} (h : bxsB X = false) : bsPutM X s id = none := by unfold bsPutM; rw [h]; rfl
theorem bsPutM_2 {X : List Bx} {s : ByteArray} {id : Int} (h : nvB s = false) : bsPutM X s id = none := by unfold bsPutM; rw [h, Bool.and_false]; rfl
theorem bsPutM_3 {X : List Bx} {s : ByteArray} {id : Int} (h : inR id = false) : bsPutM X s id = none := by unfold bsPutM; rw [h, Bool.and_false]; rfl
theorem bsPutM_4 {X : List Bx} {s : ByteArray} {id : Int} (h : bxsB (bsput X s id) = false) : bsPutM X s id = none := by unfold bsPutM; rw [h, Bool.and_false]; rfl
theorem bsPutM_t {X : List Bx} {s : ByteArray} {id : Int} (h1 : bxsB X = true) (h2 : nvB s = true) (h3 : inR id = true) (h4 : bxsB (bsput X s id) = true) : bsPutM X s id = some (bsput X s id) := by unfold bsPutM; rw [h1, h2, h3, h4]; rfl
structure BPut (X Y : List Bx) (s : ByteArray) (id : Int) : Prop where
  vx : bxsB X = true
  nv : nvB s = true
  inr : inR id = true
  vy : bxsB Y = true
  eq : Y = insB s id X
theorem bsPutM_some {X Y : List Bx} {s : ByteArray} {id : Int} (h : bsPutM X s id = some Y) : BPut X Y s id := by
  unfold bsPutM at h
  split at h
  · rename_i hc
    rw [Bool.and_eq_true, Bool.and_eq_true, Bool.and_eq_true] at hc
    cases h
    exact ⟨hc.1.1.1, hc.1.1.2, hc.1.2, hc.2, bsput_eq (bxsB_asc hc.1.1.1) s id⟩
  · cases h
section
variable {X Y : List Bx} {s : ByteArray} {id : Int}
theorem BPut.get (h : BPut X Y s id) : bgetM Y s = bput (bgetM X s) id := by
  rw [bgetM_t h.vy, bgetM_t h.vx, h.eq, insB_get (bxsB_asc h.vx), if_pos rfl]
theorem BPut.other (h : BPut X Y s id) {t : ByteArray} (ht : t ≠ s) : bgetM Y t = bgetM X t := by
  rw [bgetM_t h.vy, bgetM_t h.vx, h.eq, insB_get (bxsB_asc h.vx), if_neg ht]
theorem BPut.len (h : BPut X Y s id) : X.length ≤ Y.length ∧ Y.length ≤ X.length + 1 := by rw [h.eq]; exact insB_len X
theorem BPut.again (h : BPut X Y s id) : bsPutM Y s id = some Y := by
  have ha := bxsB_asc h.vx
  have e : insB s id Y = Y := by
    refine bx_ext (insB_asc (bxsB_asc h.vy)) (bxsB_asc h.vy) (fun t => ?_) (fun t => ?_)
    · rw [insB_mem, h.eq, insB_mem]
      constructor
      · intro h
        rcases h with h | h
        · exact .inl h
        · exact h
      · intro h; exact .inr h
    · rw [insB_get (bxsB_asc h.vy)]
      by_cases e : t = s
      · subst e
        rw [if_pos rfl, h.eq, insB_get ha, if_pos rfl, bput_twice (idsB_desc (bget_valid h.vx t))]
      · rw [if_neg e]
  have e2 : bsput Y s id = Y := (bsput_eq (bxsB_asc h.vy) s id).trans e
  rw [bsPutM_t h.vy h.nv h.inr (by rw [e2]; exact h.vy), e2]
end
theorem insB_swap {X : List Bx} (h : bxsB X = true) (s t : ByteArray) (a b : Int) : insB s a (insB t b X) = insB t b (insB s a X) := by
  have ha := bxsB_asc h
  refine bx_ext (insB_asc (insB_asc ha)) (insB_asc (insB_asc ha)) (fun u => ?_) (fun u => ?_)
  · simp only [insB_mem]
    constructor
    · rintro (h | h | h)
      · exact .inr (.inl h)
      · exact .inl h
      · exact .inr (.inr h)
    · rintro (h | h | h)
      · exact .inr (.inl h)
      · exact .inl h
      · exact .inr (.inr h)
  · rw [insB_get (insB_asc ha), insB_get (insB_asc ha), insB_get ha, insB_get ha, insB_get ha, insB_get ha]
    by_cases e1 : u = s
    · subst e1
      by_cases e2 : u = t
      · subst e2
        simp only [if_true]
        exact (bput_swap (idsB_desc (bget_valid h u)) b a)
      · simp [e2]
    · by_cases e2 : u = t
      · subst e2
        simp [e1]
      · simp [e1, e2]
theorem BPut.swap {X Y Z V W : List Bx} {s t : ByteArray} {a b : Int} (h1 : BPut X Y s a) (h2 : bsPutM Y t b = some Z) (h3 : bsPutM X t b = some V) (h4 : bsPutM V s a = some W) : Z = W := by
  have g2 := bsPutM_some h2
  have g3 := bsPutM_some h3
  have g4 := bsPutM_some h4
  rw [g2.eq, h1.eq, g4.eq, g3.eq]
  exact insB_swap h1.vx t s b a
theorem bxsB_drop1 {X : List Bx} (h : bxsB X = true) (k : Nat) : bxsB (X.take k ++ X.drop (k + 1)) = true := by
  have hs : (X.take k ++ X.drop (k + 1)).Sublist X := by
    conv => rhs; rw [← List.take_append_drop k X]
    refine (List.Sublist.refl _).append ?_
    rw [← List.drop_drop]; exact List.drop_sublist _ _
  rw [bxsB_iff]
  exact ⟨Nat.le_trans hs.length_le (bxsB_10 h), fun a ha => (bxsB_iff.1 h).2.1 a (hs.subset ha), List.Pairwise.sublist (hs.map _) (bxsB_asc h)⟩
theorem bxsB_twice {X : List Bx} {k : Nat} (h : k < X.length) : bxsB (X.take (k + 1) ++ X.drop k) = false := by
  have ha : X[k]? = some X[k] := List.getElem?_eq_getElem h
  refine bxsB_turn (k := k) (a := X[k]) (b := X[k]) ?_ ?_ (blt_irrefl _)
  · rw [List.getElem?_append_left (by rw [List.length_take]; omega), List.getElem?_take, if_pos (by omega), ha]
  · rw [List.getElem?_append_right (by rw [List.length_take]; omega), List.length_take, Nat.min_eq_left (by omega), Nat.sub_self, List.getElem?_drop, Nat.add_zero, ha]
end Go.Proofs.Ytfncmkmhdddmiaa
