/- Accounts: who follows whom; plain mathematics. -/
import Derived.Test.YtohodhogbdcdmabOrd2
namespace Go.Proofs.Ytohodhogbdcdmab
open Go.RowKit

/-- An account: its name, its followers. -/
abbrev Acc := ByteArray × List ByteArray
def accB (a : Acc) : Bool := nvB a.1 && nsB a.2 && !memB a.2 a.1
def nms (X : List Acc) : List ByteArray := X.map (·.1)
/-- Valid accounts. -/
def asB (X : List Acc) : Bool := decide (X.length ≤ 6) && X.all accB && decide (Asc (nms X))
theorem accB_iff {a : Acc} : accB a = true ↔ nvB a.1 = true ∧ nsB a.2 = true ∧ a.1 ∉ a.2 := by
  unfold accB
  rw [Bool.and_eq_true, Bool.and_eq_true, Bool.not_eq_true', ← Bool.not_eq_true, memB_iff]
  exact ⟨fun h => ⟨h.1.1, h.1.2, h.2⟩, fun h => ⟨⟨h.1, h.2.1⟩, h.2.2⟩⟩
theorem asB_iff {X : List Acc} : asB X = true ↔ X.length ≤ 6 ∧ (∀ a ∈ X, accB a = true) ∧ Asc (nms X) := by
  unfold asB; simp [and_assoc]
theorem asB_f {X : List Acc} (h : ¬(X.length ≤ 6 ∧ (∀ a ∈ X, accB a = true) ∧ Asc (nms X))) : asB X = false := by
  rw [← Bool.not_eq_true, asB_iff]; exact h
theorem asB_len {X : List Acc} (h : 6 < X.length) : asB X = false := asB_f fun hh => by omega
theorem asB_bad {X : List Acc} {k : Nat} {a : Acc} (ha : X[k]? = some a) (h : accB a = false) : asB X = false :=
  asB_f fun hh => by rw [hh.2.1 a (List.mem_of_getElem? ha)] at h; cases h
theorem nms_at {X : List Acc} {k : Nat} {a : Acc} (h : X[k]? = some a) : (nms X)[k]? = some a.1 := by unfold nms; rw [List.getElem?_map, h]; rfl
theorem nms_len (X : List Acc) : (nms X).length = X.length := List.length_map _
theorem asB_turn {X : List Acc} {k : Nat} {a b : Acc} (ha : X[k]? = some a) (hb : X[k + 1]? = some b) (h : blt a.1 b.1 = false) : asB X = false :=
  asB_f fun hh => by rw [asc_iff.1 hh.2.2 k a.1 b.1 (nms_at ha) (nms_at hb)] at h; cases h
theorem asB_6 {X : List Acc} (h : asB X = true) : X.length ≤ 6 := (asB_iff.1 h).1
theorem asB_acc {X : List Acc} (h : asB X = true) {a : Acc} (ha : a ∈ X) : nvB a.1 = true ∧ nsB a.2 = true ∧ a.1 ∉ a.2 := accB_iff.1 ((asB_iff.1 h).2.1 a ha)
theorem asB_asc {X : List Acc} (h : asB X = true) : Asc (nms X) := (asB_iff.1 h).2.2
/-- The first k accounts are valid and ascend. -/
def AUpto (X : List Acc) (k : Nat) : Prop := ∀ j a, j < k → X[j]? = some a → accB a = true ∧ ∀ b, j + 1 < k → X[j + 1]? = some b → blt a.1 b.1 = true
theorem AUpto.zero (X : List Acc) : AUpto X 0 := fun j _ h => absurd h (by omega)
theorem AUpto.one {X : List Acc} {a : Acc} (ha : X[0]? = some a) (h : accB a = true) : AUpto X 1 := fun j t hj ht => by
  obtain rfl : j = 0 := by omega
  rw [ha] at ht; cases ht
  exact ⟨h, fun _ hh => absurd hh (by omega)⟩
theorem AUpto.more {X : List Acc} {k : Nat} {a b : Acc} (hu : AUpto X (k + 1)) (ha : X[k]? = some a) (hb : X[k + 1]? = some b) (h : accB b = true) (hl : blt a.1 b.1 = true) : AUpto X (k + 2) := fun j t hj ht => by
  by_cases e : j = k + 1
  · subst e; rw [hb] at ht; cases ht; exact ⟨h, fun _ hh => absurd hh (by omega)⟩
  · refine ⟨(hu j t (by omega) ht).1, fun u hju hu2 => ?_⟩
    by_cases e2 : j = k
    · subst e2; rw [ha] at ht; rw [hb] at hu2; cases ht; cases hu2; exact hl
    · exact (hu j t (by omega) ht).2 u (by omega) hu2
theorem AUpto.all {X : List Acc} (h : AUpto X X.length) (hl : X.length ≤ 6) : asB X = true := by
  rw [asB_iff]
  refine ⟨hl, fun s hs => ?_, asc_iff.2 fun k a b ha hb => ?_⟩
  · obtain ⟨j, hj, rfl⟩ := List.mem_iff_getElem.1 hs
    exact (h j _ hj (List.getElem?_eq_getElem hj)).1
  · have h1 := (List.getElem?_eq_some_iff.1 hb).1
    rw [nms_len] at h1
    have e1 := nms_at (List.getElem?_eq_getElem (l := X) (i := k) (by omega))
    have e2 := nms_at (List.getElem?_eq_getElem (l := X) (i := k + 1) (by omega))
    rw [e1] at ha; rw [e2] at hb; cases ha; cases hb
    exact (h k _ (by omega) (List.getElem?_eq_getElem (by omega))).2 _ h1 (List.getElem?_eq_getElem h1)

/-- The followers of an account; those of whom a name is a follower. -/
def fol (X : List Acc) (s : ByteArray) : List ByteArray := ((X.find? fun a => decide (a.1 = s)).map (·.2)).getD []
def folM (X : List Acc) (s : ByteArray) : List ByteArray := if asB X = true then fol X s else []
def byF (X : List Acc) (s : ByteArray) : List ByteArray := (X.filter fun a => memB a.2 s).map (·.1)
def byM (X : List Acc) (s : ByteArray) : List ByteArray := if asB X = true then byF X s else []
def setF (X : List Acc) (s : ByteArray) (F : List ByteArray) : List Acc := X.map fun a => if a.1 = s then (a.1, F) else a
def followM (X : List Acc) (who s : ByteArray) : Option (List Acc) := if (asB X && memB (nms X) s && !decide (who = s)) = true then (putM (fol X s) who).map (setF X s) else none
def unfollowM (X : List Acc) (who s : ByteArray) : Option (List Acc) := if (asB X && memB (nms X) s) = true then (dropM (fol X s) who).map (setF X s) else none

theorem folM_t {X : List Acc} {s : ByteArray} (h : asB X = true) : folM X s = fol X s := by unfold folM; rw [if_pos h]
theorem folM_f {X : List Acc} {s : ByteArray} (h : asB X = false) : folM X s = [] := by unfold folM; rw [h]; rfl
theorem byM_t {X : List Acc} {s : ByteArray} (h : asB X = true) : byM X s = byF X s := by unfold byM; rw [if_pos h]
theorem byM_f {X : List Acc} {s : ByteArray} (h : asB X = false) : byM X s = [] := by unfold byM; rw [h]; rfl
theorem follow_1 {X : List Acc} {who s : ByteArray} (h : asB X = false) : followM X who s = none := by unfold followM; rw [h]; rfl
theorem follow_2 {X : List Acc} {who s : ByteArray} (h : memB (nms X) s = false) : followM X who s = none := by unfold followM; rw [h, Bool.and_false]; rfl
theorem follow_3 (X : List Acc) (s : ByteArray) : followM X s s = none := by unfold followM; simp
theorem follow_4 {X : List Acc} {who s : ByteArray} (h : putM (fol X s) who = none) : followM X who s = none := by unfold followM; rw [h]; split <;> rfl
theorem follow_t {X : List Acc} {who s : ByteArray} {F : List ByteArray} (h1 : asB X = true) (h2 : memB (nms X) s = true) (h3 : who ≠ s) (h4 : putM (fol X s) who = some F) : followM X who s = some (setF X s F) := by
  unfold followM; rw [h1, h2, h4]; simp [h3]
theorem unfollow_1 {X : List Acc} {who s : ByteArray} (h : asB X = false) : unfollowM X who s = none := by unfold unfollowM; rw [h]; rfl
theorem unfollow_2 {X : List Acc} {who s : ByteArray} (h : memB (nms X) s = false) : unfollowM X who s = none := by unfold unfollowM; rw [h, Bool.and_false]; rfl
theorem unfollow_4 {X : List Acc} {who s : ByteArray} (h : dropM (fol X s) who = none) : unfollowM X who s = none := by unfold unfollowM; rw [h]; split <;> rfl
theorem unfollow_t {X : List Acc} {who s : ByteArray} {F : List ByteArray} (h1 : asB X = true) (h2 : memB (nms X) s = true) (h4 : dropM (fol X s) who = some F) : unfollowM X who s = some (setF X s F) := by
  unfold unfollowM; rw [h1, h2, h4]; simp
theorem follow_some {X Y : List Acc} {who s : ByteArray} (h : followM X who s = some Y) : ∃ F, asB X = true ∧ s ∈ nms X ∧ who ≠ s ∧ putM (fol X s) who = some F ∧ Y = setF X s F := by
  unfold followM at h
  split at h
  · rename_i hc
    rw [Bool.and_eq_true, Bool.and_eq_true, memB_iff] at hc
    rw [Option.map_eq_some_iff] at h
    obtain ⟨F, hF, rfl⟩ := h
    exact ⟨F, hc.1.1, hc.1.2, by simpa using hc.2, hF, rfl⟩
  · cases h
theorem unfollow_some {X Y : List Acc} {who s : ByteArray} (h : unfollowM X who s = some Y) : ∃ F, asB X = true ∧ s ∈ nms X ∧ dropM (fol X s) who = some F ∧ Y = setF X s F := by
  unfold unfollowM at h
  split at h
  · rename_i hc
    rw [Bool.and_eq_true, memB_iff] at hc
    rw [Option.map_eq_some_iff] at h
    obtain ⟨F, hF, rfl⟩ := h
    exact ⟨F, hc.1, hc.2, hF, rfl⟩
  · cases h

theorem fol_none {X : List Acc} {s : ByteArray} (h : s ∉ nms X) : fol X s = [] := by
  unfold fol
  have : X.find? (fun a => decide (a.1 = s)) = none := by
    rw [List.find?_eq_none]
    intro a ha
    have : a.1 ≠ s := fun e => h (e ▸ List.mem_map_of_mem ha)
    simpa using this
  rw [this]; rfl
theorem fol_at {X : List Acc} {k : Nat} {a : Acc} (ha : Asc (nms X)) (h : X[k]? = some a) : fol X a.1 = a.2 := by
  unfold fol
  have : X.find? (fun b => decide (b.1 = a.1)) = some a := by
    cases hf : X.find? (fun b => decide (b.1 = a.1)) with
    | none =>
      rw [List.find?_eq_none] at hf
      exact absurd (hf a (List.mem_of_getElem? h)) (by simp)
    | some b =>
      have hb := List.find?_some hf
      simp only [decide_eq_true_eq] at hb
      obtain ⟨j, hj, e⟩ := List.mem_iff_getElem.1 (List.mem_of_find?_eq_some hf)
      have hjb : X[j]? = some b := by rw [List.getElem?_eq_getElem hj, e]
      have h1 := nms_at hjb
      rw [hb] at h1
      have : j = k := ha.uniq h1 (nms_at h)
      subst this
      rw [hjb] at h; cases h; rfl
  rw [this]; rfl
theorem nms_mem {X : List Acc} {s : ByteArray} (h : s ∈ nms X) : ∃ (k : Nat) (F : List ByteArray), X[k]? = some (s, F) := by
  unfold nms at h
  obtain ⟨a, ha, rfl⟩ := List.mem_map.1 h
  obtain ⟨k, hk, e⟩ := List.mem_iff_getElem.1 ha
  exact ⟨k, a.2, by rw [List.getElem?_eq_getElem hk, e]⟩
theorem setF_nms (X : List Acc) (s : ByteArray) (F : List ByteArray) : nms (setF X s F) = nms X := by
  unfold nms setF
  rw [List.map_map]
  apply List.map_congr_left
  intro a _
  show (if a.1 = s then (a.1, F) else a).1 = a.1
  split <;> rfl
theorem setF_len (X : List Acc) (s : ByteArray) (F : List ByteArray) : (setF X s F).length = X.length := List.length_map _
theorem setF_at {X : List Acc} {k : Nat} {a : Acc} (s : ByteArray) (F : List ByteArray) (h : X[k]? = some a) : (setF X s F)[k]? = some (if a.1 = s then (a.1, F) else a) := by
  unfold setF; rw [List.getElem?_map, h]; rfl
theorem setF_fol {X : List Acc} {s : ByteArray} (F : List ByteArray) (ha : Asc (nms X)) (h : s ∈ nms X) : fol (setF X s F) s = F := by
  obtain ⟨k, G, hk⟩ := nms_mem h
  have h1 := setF_at s F hk
  rw [if_pos rfl] at h1
  exact fol_at (a := (s, F)) (by rw [setF_nms]; exact ha) h1
theorem setF_valid {X : List Acc} {s : ByteArray} {F : List ByteArray} (h : asB X = true) (hF : nsB F = true) (hs : s ∉ F) : asB (setF X s F) = true := by
  rw [asB_iff, setF_nms, setF_len]
  refine ⟨asB_6 h, fun a ha => ?_, asB_asc h⟩
  unfold setF at ha
  obtain ⟨b, hb, rfl⟩ := List.mem_map.1 ha
  have h1 := asB_acc h hb
  split
  · rename_i e
    exact accB_iff.2 ⟨h1.1, hF, by rw [e]; exact hs⟩
  · exact accB_iff.2 h1
theorem setF_setF (X : List Acc) (s : ByteArray) (F G : List ByteArray) : setF (setF X s F) s G = setF X s G := by
  unfold setF
  rw [List.map_map]
  apply List.map_congr_left
  intro a _
  show (if (if a.1 = s then (a.1, F) else a).1 = s then ((if a.1 = s then (a.1, F) else a).1, G) else (if a.1 = s then (a.1, F) else a)) = _
  by_cases e : a.1 = s
  · simp [e]
  · simp [e]
theorem setF_same {X : List Acc} {s : ByteArray} (ha : Asc (nms X)) : setF X s (fol X s) = X := by
  have : ∀ a ∈ X, (if a.1 = s then (a.1, fol X s) else a) = a := by
    intro a hm
    split
    · rename_i e
      obtain ⟨k, hk, e2⟩ := List.mem_iff_getElem.1 hm
      rw [← e, fol_at ha (by rw [List.getElem?_eq_getElem hk, e2])]
    · rfl
  unfold setF
  rw [List.map_congr_left this, List.map_id']
theorem fol_valid {X : List Acc} {s : ByteArray} (h : asB X = true) (hs : s ∈ nms X) : nsB (fol X s) = true ∧ s ∉ fol X s := by
  obtain ⟨k, G, hk⟩ := nms_mem hs
  have h1 := fol_at (asB_asc h) hk
  have h2 := asB_acc h (List.mem_of_getElem? hk)
  simp only at h1
  rw [h1]; exact ⟨h2.2.1, h2.2.2⟩
theorem byF_mem {X : List Acc} {s t : ByteArray} (h : asB X = true) : t ∈ byF X s ↔ t ∈ nms X ∧ s ∈ fol X t := by
  unfold byF
  rw [List.mem_map]
  constructor
  · rintro ⟨a, ha, rfl⟩
    rw [List.mem_filter, memB_iff] at ha
    obtain ⟨k, hk, e⟩ := List.mem_iff_getElem.1 ha.1
    refine ⟨List.mem_map_of_mem ha.1, ?_⟩
    rw [fol_at (asB_asc h) (by rw [List.getElem?_eq_getElem hk, e])]
    exact ha.2
  · rintro ⟨h1, h2⟩
    obtain ⟨k, G, hk⟩ := nms_mem h1
    have h3 := fol_at (asB_asc h) hk
    simp only at h3
    rw [h3] at h2
    exact ⟨(t, G), by rw [List.mem_filter, memB_iff]; exact ⟨List.mem_of_getElem? hk, h2⟩, rfl⟩
theorem byF_sub (X : List Acc) (s : ByteArray) : (byF X s).Sublist (nms X) := List.Sublist.map _ List.filter_sublist
theorem byM_len (X : List Acc) (s : ByteArray) : (byM X s).length ≤ X.length := by
  unfold byM; split
  · have := (byF_sub X s).length_le; rw [nms_len] at this; exact this
  · exact Nat.zero_le _
theorem byM_self {X : List Acc} {s : ByteArray} (h : asB X = true) : s ∉ byM X s := by
  rw [byM_t h, byF_mem h]
  rintro ⟨h1, h2⟩
  exact (fol_valid h h1).2 h2

/-! What the laws of following ask. -/
theorem put_not {L M : List ByteArray} {who s : ByteArray} (h : putM L who = some M) (hs : s ∉ L) (hn : who ≠ s) : s ∉ M := by
  rw [(putM_some h).1, put_mem]
  rintro (e | e)
  · exact hn e.symm
  · exact hs e
theorem drop_not {L M : List ByteArray} {who s : ByteArray} (h : dropM L who = some M) (hs : s ∉ L) : s ∉ M := by
  rw [(dropM_some h).1]
  exact fun e => hs ((dropAt_sub _ _).subset e)
structure Followed (X Y : List Acc) (who s : ByteArray) (F : List ByteArray) : Prop where
  vx : asB X = true
  vy : asB Y = true
  sx : s ∈ nms X
  sy : s ∈ nms Y
  ne : who ≠ s
  put : putM (fol X s) who = some F
  eq : Y = setF X s F
  fy : fol Y s = F
theorem followed {X Y : List Acc} {who s : ByteArray} (h : followM X who s = some Y) : ∃ F, Followed X Y who s F := by
  obtain ⟨F, h1, h2, h3, h4, rfl⟩ := follow_some h
  have hf := fol_valid h1 h2
  exact ⟨F, h1, setF_valid h1 (putM_some h4).2.2.2 (put_not h4 hf.2 h3), h2, by rw [setF_nms]; exact h2, h3, h4, rfl, setF_fol F (asB_asc h1) h2⟩
theorem Followed.has {X Y : List Acc} {who s : ByteArray} {F : List ByteArray} (h : Followed X Y who s F) : who ∈ folM Y s := by
  rw [folM_t h.vy, h.fy, (putM_some h.put).1, put_mem]; exact .inl rfl
theorem Followed.by' {X Y : List Acc} {who s : ByteArray} {F : List ByteArray} (h : Followed X Y who s F) : s ∈ byM Y who := by
  rw [byM_t h.vy, byF_mem h.vy]
  refine ⟨h.sy, ?_⟩
  have := h.has
  rwa [folM_t h.vy] at this
theorem Followed.again {X Y : List Acc} {who s : ByteArray} {F : List ByteArray} (h : Followed X Y who s F) : followM Y who s = some Y := by
  have h1 : putM (fol Y s) who = some F := by
    rw [h.fy]; exact putM_again h.put (by rw [(putM_some h.put).1, put_mem]; exact .inl rfl)
  rw [follow_t h.vy (memB_t h.sy) h.ne h1, h.eq, setF_setF]
theorem Followed.end' {X Y : List Acc} {who s : ByteArray} {F : List ByteArray} (h : Followed X Y who s F) : ∃ Z, unfollowM Y who s = some Z ∧ (who ∉ folM X s → Z = X) := by
  obtain ⟨K, hK, hKL⟩ := putM_drop h.put
  refine ⟨setF Y s K, unfollow_t h.vy (memB_t h.sy) (by rw [h.fy]; exact hK), fun hn => ?_⟩
  rw [folM_t h.vx] at hn
  rw [hKL hn, h.eq, setF_setF, setF_same (asB_asc h.vx)]
structure Unfollowed (X Y : List Acc) (who s : ByteArray) (F : List ByteArray) : Prop where
  vx : asB X = true
  vy : asB Y = true
  sx : s ∈ nms X
  sy : s ∈ nms Y
  drop : dropM (fol X s) who = some F
  eq : Y = setF X s F
  fy : fol Y s = F
theorem unfollowed {X Y : List Acc} {who s : ByteArray} (h : unfollowM X who s = some Y) : ∃ F, Unfollowed X Y who s F := by
  obtain ⟨F, h1, h2, h4, rfl⟩ := unfollow_some h
  have hf := fol_valid h1 h2
  exact ⟨F, h1, setF_valid h1 (dropM_nsB h4) (drop_not h4 hf.2), h2, by rw [setF_nms]; exact h2, h4, rfl, setF_fol F (asB_asc h1) h2⟩
theorem Unfollowed.gone {X Y : List Acc} {who s : ByteArray} {F : List ByteArray} (h : Unfollowed X Y who s F) : who ∉ folM Y s ∧ who ∈ folM X s ∧ unfollowM Y who s = none := by
  obtain ⟨f1, f2, f3, f4, f5, f6⟩ := dropM_facts h.drop
  exact ⟨by rw [folM_t h.vy, h.fy]; exact f3, by rw [folM_t h.vx]; exact f5, unfollow_4 (by rw [h.fy]; exact f4)⟩
theorem Unfollowed.ne {X Y : List Acc} {who s : ByteArray} {F : List ByteArray} (h : Unfollowed X Y who s F) : who ≠ s := by
  have h1 := (dropM_facts h.drop).2.2.2.2.1
  rintro rfl
  exact (fol_valid h.vx h.sx).2 h1
theorem Unfollowed.back {X Y : List Acc} {who s : ByteArray} {F : List ByteArray} (h : Unfollowed X Y who s F) : followM Y who s = some X := by
  have f6 := (dropM_facts h.drop).2.2.2.2.2
  rw [follow_t h.vy (memB_t h.sy) h.ne (by rw [h.fy]; exact f6), h.eq, setF_setF, setF_same (asB_asc h.vx)]
/-- The k-th account of another name is as before. -/
theorem setF_other {X : List Acc} {k : Nat} {a : Acc} {s : ByteArray} (F : List ByteArray) (h : X[k]? = some a) (hn : a.1 ≠ s) : (setF X s F)[k]? = some a := by
  rw [setF_at s F h, if_neg hn]

/-! Accounts that are invalid. -/
theorem asB_self {X : List Acc} {n : ByteArray} {F : List ByteArray} (r : List Acc) (_ : X = (n, F) :: r) : asB ((n, [n]) :: r) = false := by
  exact asB_bad (k := 0) (a := (n, [n])) rfl (by rw [← Bool.not_eq_true, accB_iff]; rintro ⟨_, _, h⟩; exact h (by simp))
theorem asB_twice {X : List Acc} {a : Acc} (h : X.getLast? = some a) : asB (X ++ [a]) = false := by
  have hne : X ≠ [] := by rintro rfl; simp at h
  have hl : 0 < X.length := List.length_pos_iff.2 hne
  rw [List.getLast?_eq_getElem?] at h
  refine asB_turn (k := X.length - 1) (a := a) (b := a) (by rw [List.getElem?_append_left (by omega)]; exact h) ?_ (blt_irrefl _)
  rw [show X.length - 1 + 1 = X.length by omega, List.getElem?_append_right (Nat.le_refl _)]
  simp
end Go.Proofs.Ytohodhogbdcdmab
