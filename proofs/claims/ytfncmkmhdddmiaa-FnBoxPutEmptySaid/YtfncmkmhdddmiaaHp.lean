/- Heaps of numbers, the greatest one on top: plain mathematics. -/
import Derived.Test.YtfncmkmhdddmiaaBxi
set_option linter.unusedVariables false
set_option linter.unusedSimpArgs false
namespace Go.Proofs.Ytfncmkmhdddmiaa

/-- Exchanged. -/
def sw (L : List Int) (i j : Nat) (a b : Int) : List Int := (L.set i b).set j a
theorem sw_len (L : List Int) (i j : Nat) (a b : Int) : (sw L i j a b).length = L.length := by simp [sw]
theorem sw_at {L : List Int} {i j : Nat} {a b : Int} (ha : L[i]? = some a) (hb : L[j]? = some b) (k : Nat) : (sw L i j a b)[k]? = if k = j then some a else if k = i then some b else L[k]? := by
  have hi := (List.getElem?_eq_some_iff.1 ha).1
  have hj := (List.getElem?_eq_some_iff.1 hb).1
  unfold sw
  by_cases h1 : k = j
  · subst h1; rw [if_pos rfl, List.getElem?_set_self (by simpa using hj)]
  · rw [if_neg h1, List.getElem?_set_ne (fun e => h1 e.symm)]
    by_cases h2 : k = i
    · subst h2; rw [if_pos rfl, List.getElem?_set_self hi]
    · rw [if_neg h2, List.getElem?_set_ne (fun e => h2 e.symm)]
theorem sw_perm {L : List Int} {i j : Nat} {a b : Int} (ha : L[i]? = some a) (hb : L[j]? = some b) : (sw L i j a b).Perm L := by
  obtain ⟨hi, rfl⟩ := List.getElem?_eq_some_iff.1 ha
  obtain ⟨hj, rfl⟩ := List.getElem?_eq_some_iff.1 hb
  exact List.set_set_perm hi hj

/-- The first n are a heap. -/
def Hpn (L : List Int) (n : Nat) : Prop := ∀ k a b, 0 < k → k < n → L[k]? = some a → L[(k - 1) / 2]? = some b → a ≤ b
def Hp (L : List Int) : Prop := Hpn L L.length
theorem Hpn.max {L : List Int} {n : Nat} (h : Hpn L n) (hn : n ≤ L.length) {m : Int} (hm : L[0]? = some m) : ∀ k a, k < n → L[k]? = some a → a ≤ m := by
  intro k
  induction k using Nat.strongRecOn with
  | _ k ih =>
    intro a hk ha
    by_cases h0 : k = 0
    · subst h0; rw [hm] at ha; injection ha with e; omega
    · have hp : (k - 1) / 2 < L.length := by omega
      have h1 := h k a _ (by omega) hk ha (List.getElem?_eq_getElem hp)
      have h2 := ih ((k - 1) / 2) (by omega) _ (by omega) (List.getElem?_eq_getElem hp)
      omega
theorem Hpn.less {L : List Int} {n m : Nat} (h : Hpn L n) (hm : m ≤ n) : Hpn L m := fun k a b h0 hk => h k a b h0 (by omega)
theorem Hpn.take {L : List Int} {n : Nat} (h : Hpn L n) (hn : n ≤ L.length) : Hp (L.take n) := by
  intro k a b h0 hk ha hb
  have hl : (L.take n).length = n := by rw [List.length_take]; omega
  rw [hl] at hk
  rw [List.getElem?_take, if_pos hk] at ha
  rw [List.getElem?_take, if_pos (by omega)] at hb
  exact h k a b h0 hk ha hb
theorem Hp.of_desc {L : List Int} (h : Desc L) : Hp L := fun k a b h0 hk ha hb => by
  have := desc_gt h hb ha (by omega); omega

/-- On the way up: only the one at j may be too great. -/
def UpI (L : List Int) (j : Nat) : Prop :=
  (∀ k a b, 0 < k → k ≠ j → L[k]? = some a → L[(k - 1) / 2]? = some b → a ≤ b) ∧ (∀ k a b, 0 < k → (k - 1) / 2 = j → 0 < j → L[k]? = some a → L[(j - 1) / 2]? = some b → a ≤ b)
theorem UpI.start {L : List Int} (h : Hp L) (x : Int) : UpI (L ++ [x]) L.length := by
  refine ⟨fun k a b h0 hk ha hb => ?_, fun k a b h0 hk hj ha hb => ?_⟩
  · have hlt : k < L.length := by have := (List.getElem?_eq_some_iff.1 ha).1; simp at this; omega
    rw [List.getElem?_append_left hlt] at ha
    rw [List.getElem?_append_left (by omega)] at hb
    exact h k a b h0 hlt ha hb
  · have := (List.getElem?_eq_some_iff.1 ha).1; simp at this; omega
theorem UpI.step {L : List Int} {j : Nat} {x y : Int} (h : UpI L j) (hj : 0 < j) (hx : L[j]? = some x) (hy : L[(j - 1) / 2]? = some y) (hlt : y < x) : UpI (sw L ((j - 1) / 2) j y x) ((j - 1) / 2) := by
  have hat := sw_at hy hx
  refine ⟨fun k a b h0 hk ha hb => ?_, fun k a b h0 hk hp ha hb => ?_⟩
  · rw [hat] at ha hb
    by_cases e1 : k = j
    · subst e1
      rw [if_pos rfl] at ha
      rw [if_neg (by omega), if_pos rfl] at hb
      injection ha with ha; injection hb with hb; omega
    · rw [if_neg e1, if_neg hk] at ha
      by_cases e2 : (k - 1) / 2 = j
      · rw [if_pos e2] at hb
        injection hb with hb
        have := h.2 k a y h0 e2 hj ha hy
        omega
      · rw [if_neg e2] at hb
        by_cases e3 : (k - 1) / 2 = (j - 1) / 2
        · rw [if_pos e3] at hb
          injection hb with hb
          have := h.1 k a y h0 e1 ha (by rw [e3]; exact hy)
          omega
        · rw [if_neg e3] at hb
          exact h.1 k a b h0 e1 ha hb
  · rw [hat] at ha hb
    rw [if_neg (by omega), if_neg (by omega)] at hb
    have h2 := h.1 ((j - 1) / 2) y b hp (by omega) hy hb
    by_cases e1 : k = j
    · subst e1
      rw [if_pos rfl] at ha
      injection ha with ha; omega
    · rw [if_neg e1, if_neg (by omega)] at ha
      have := h.1 k a y h0 e1 ha (by rw [hk]; exact hy)
      omega
theorem UpI.top {L : List Int} (h : UpI L 0) : Hp L := fun k a b h0 _ ha hb => h.1 k a b h0 (by omega) ha hb
theorem UpI.done {L : List Int} {j : Nat} {x y : Int} (h : UpI L j) (hx : L[j]? = some x) (hy : L[(j - 1) / 2]? = some y) (hle : x ≤ y) : Hp L := fun k a b h0 _ ha hb => by
  by_cases e : k = j
  · subst e; rw [hx] at ha; rw [hy] at hb; injection ha with ha; injection hb with hb; omega
  · exact h.1 k a b h0 e ha hb

/-- On the way down: only the one at i may be too small. -/
def DnI (L : List Int) (n i : Nat) : Prop :=
  (∀ k a b, 0 < k → k < n → (k - 1) / 2 ≠ i → L[k]? = some a → L[(k - 1) / 2]? = some b → a ≤ b) ∧ (∀ k a b, 0 < k → k < n → (k - 1) / 2 = i → 0 < i → L[k]? = some a → L[(i - 1) / 2]? = some b → a ≤ b)
theorem DnI.start {L : List Int} {n : Nat} {x y : Int} (h : Hp L) (hl : L.length = n + 1) (hx : L[0]? = some x) (hy : L[n]? = some y) : DnI (sw L 0 n x y) n 0 := by
  refine ⟨fun k a b h0 hk hp ha hb => ?_, fun k a b _ _ _ hh => absurd hh (by omega)⟩
  rw [sw_at hx hy, if_neg (by omega), if_neg (by omega)] at ha hb
  exact h k a b h0 (by omega) ha hb
theorem DnI.step {L : List Int} {n i j : Nat} {x y : Int} (h : DnI L n i) (hj : 0 < j) (hjn : j < n) (hp : (j - 1) / 2 = i) (hx : L[i]? = some x) (hy : L[j]? = some y) (hlt : x < y)
    (hs : ∀ k a, 0 < k → k < n → (k - 1) / 2 = i → L[k]? = some a → a ≤ y) : DnI (sw L i j x y) n j := by
  have hat := sw_at hx hy
  refine ⟨fun k a b h0 hk hne ha hb => ?_, fun k a b h0 hk he _ ha hb => ?_⟩
  · rw [hat] at ha hb
    rw [if_neg hne] at hb
    by_cases e1 : (k - 1) / 2 = i
    · rw [if_pos e1] at hb
      injection hb with hb
      by_cases e2 : k = j
      · rw [if_pos e2] at ha; injection ha with ha; omega
      · rw [if_neg e2, if_neg (by omega)] at ha
        have := hs k a h0 hk e1 ha
        omega
    · rw [if_neg e1] at hb
      rw [if_neg (fun e => e1 (by rw [e]; exact hp))] at ha
      by_cases e2 : k = i
      · rw [if_pos e2] at ha
        injection ha with ha
        subst ha
        exact h.2 j y b hj hjn hp (by omega) hy (by rw [← e2]; exact hb)
      · rw [if_neg e2] at ha
        exact h.1 k a b h0 hk e1 ha hb
  · rw [hat] at ha hb
    rw [hp, if_neg (by omega), if_pos rfl] at hb
    rw [if_neg (by omega), if_neg (by omega)] at ha
    injection hb with hb
    have := h.1 k a y h0 hk (by omega) ha (by rw [he]; exact hy)
    omega
theorem DnI.done {L : List Int} {n i : Nat} {x : Int} (h : DnI L n i) (hx : L[i]? = some x) (hs : ∀ k a, 0 < k → k < n → (k - 1) / 2 = i → L[k]? = some a → a ≤ x) : Hpn L n := fun k a b h0 hk ha hb => by
  by_cases e : (k - 1) / 2 = i
  · rw [e, hx] at hb; injection hb with hb; have := hs k a h0 hk e ha; omega
  · exact h.1 k a b h0 hk e ha hb
/-- Behind the way down: the rest is a heap, the same numbers. -/
structure DnS (L M : List Int) (n : Nat) : Prop where
  perm : M.Perm L
  len : M.length = L.length
  past : ∀ k, n ≤ k → M[k]? = L[k]?
theorem DnS.refl (L : List Int) (n : Nat) : DnS L L n := ⟨List.Perm.refl _, rfl, fun _ _ => rfl⟩
theorem DnS.step {L M : List Int} {n i j : Nat} {x y : Int} (h : DnS L M n) (hx : M[i]? = some x) (hy : M[j]? = some y) (hi : i < n) (hj : j < n) : DnS L (sw M i j x y) n :=
  ⟨(sw_perm hx hy).trans h.perm, by rw [sw_len]; exact h.len, fun k hk => by rw [sw_at hx hy, if_neg (by omega), if_neg (by omega)]; exact h.past k hk⟩

/-- Taking the greatest one. -/
structure Took (L M : List Int) (x : Int) : Prop where
  perm : (x :: M).Perm L
  max : ∀ a ∈ L, a ≤ x
  heap : Hp M
theorem took_of {L M : List Int} {n : Nat} {x y : Int} (h : Hp L) (hl : L.length = n + 1) (hx : L[0]? = some x) (hy : L[n]? = some y) (hd : DnS (sw L 0 n x y) M n) (hh : Hpn M n) : M[n]? = some x ∧ Took L (M.take n) x := by
  have e1 : M[n]? = some x := by rw [hd.past n (Nat.le_refl _), sw_at hx hy, if_pos rfl]
  have hlen : M.length = n + 1 := by rw [hd.len, sw_len, hl]
  refine ⟨e1, ?_, fun a ha => ?_, hh.take (by omega)⟩
  · have h1 : M = M.take n ++ [x] := by
      have h2 : M.take (n + 1) = M.take n ++ [x] := by rw [List.take_add_one, e1]; rfl
      rw [List.take_of_length_le (by omega)] at h2
      exact h2
    have h3 : (x :: M.take n).Perm (M.take n ++ [x]) := (List.perm_append_singleton x (M.take n)).symm
    rw [← h1] at h3
    exact h3.trans (hd.perm.trans (sw_perm hx hy))
  · obtain ⟨k, hk, e⟩ := List.mem_iff_getElem.1 ha
    exact Hpn.max h (Nat.le_refl _) hx k a hk (by rw [List.getElem?_eq_getElem hk, e])

/-- What was taken, and what is left. -/
structure Tk (S ids R : List Int) : Prop where
  perm : (ids ++ R).Perm S
  over : ∀ a ∈ ids, ∀ b ∈ R, b < a
  desc : Desc ids
theorem Tk.start {S R : List Int} (h : R.Perm S) : Tk S [] R := ⟨h, fun a ha => by simp at ha, List.Pairwise.nil⟩
theorem Tk.step {S ids R M : List Int} {x : Int} (h : Tk S ids R) (hS : Desc S) (ht : Took R M x) : Tk S (ids ++ [x]) M := by
  have hp : (ids ++ [x] ++ M).Perm S := by
    rw [List.append_assoc]
    exact (List.Perm.append_left ids ht.perm).trans h.perm
  have hnd : (ids ++ [x] ++ M).Nodup := by
    rw [hp.nodup_iff]
    exact hS.imp (fun hab => by omega)
  refine ⟨hp, fun a ha b hb => ?_, ?_⟩
  · have hbR : b ∈ R := ht.perm.subset (List.mem_cons_of_mem _ hb)
    rcases List.mem_append.1 ha with h1 | h1
    · exact h.over a h1 b hbR
    · have h2 := ht.max b hbR
      rw [List.mem_singleton] at h1
      subst h1
      have h3 := (List.nodup_append.1 hnd).2.2 a (List.mem_append_right _ (List.mem_singleton_self _)) b hb
      omega
  · unfold Desc at *
    rw [List.pairwise_append]
    refine ⟨h.desc, List.pairwise_singleton _ _, fun a ha b hb => ?_⟩
    rw [List.mem_singleton] at hb
    subst hb
    exact h.over a ha b (ht.perm.subset (List.mem_cons_self ..))
theorem Tk.len {S ids R : List Int} (h : Tk S ids R) : ids.length + R.length = S.length := by
  have := h.perm.length_eq; simpa using this
theorem Tk.take {S ids R : List Int} (h : Tk S ids R) (hS : Desc S) : ids = S.take ids.length := by
  have hsorted : ∃ R', R'.Perm R ∧ Desc R' := by
    have hR : R.Nodup := by
      have h1 : (ids ++ R).Nodup := by rw [h.perm.nodup_iff]; exact hS.imp (fun hab => by omega)
      exact (List.nodup_append.1 h1).2.1
    refine ⟨R.mergeSort (fun a b => decide (b ≤ a)), List.mergeSort_perm _ _, ?_⟩
    have h1 := List.pairwise_mergeSort (le := fun a b : Int => decide (b ≤ a)) (fun a b c h1 h2 => by simp at *; omega) (fun a b => by simp; omega) R
    have h2 : (R.mergeSort (fun a b => decide (b ≤ a))).Nodup := by rw [(List.mergeSort_perm R _).nodup_iff]; exact hR
    unfold Desc
    exact (h1.and h2).imp (fun {a b} hab => by have := hab.1; have := hab.2; simp at *; omega)
  obtain ⟨R', hp, hd⟩ := hsorted
  have hall : Desc (ids ++ R') := by
    unfold Desc at *
    rw [List.pairwise_append]
    exact ⟨h.desc, hd, fun a ha b hb => h.over a ha b (hp.subset hb)⟩
  have he : ids ++ R' = S := desc_ext hall hS (fun x => ((List.Perm.append_left ids hp).trans h.perm).mem_iff)
  rw [← he, List.take_append_of_le_length (Nat.le_refl _), List.take_length]
/-- All of a box, with a further one: the heap's numbers are those of insD. -/
theorem desc_nodup {L : List Int} (h : Desc L) : L.Nodup := h.imp (fun hab => by omega)
theorem insD_new {L : List Int} (h : Desc L) {id : Int} (hn : id ∉ L) : (L ++ [id]).Perm (insD id L) := by
  rw [List.perm_ext_iff_of_nodup]
  · intro a; rw [insD_mem, List.mem_append, List.mem_singleton]; exact ⟨fun h => h.symm, fun h => h.symm⟩
  · rw [List.nodup_append]
    exact ⟨desc_nodup h, by simp, fun a ha b hb e => hn (by rw [List.mem_singleton] at hb; rw [← hb, ← e]; exact ha)⟩
  · exact desc_nodup (insD_desc h)
theorem insD_old {L : List Int} (h : Desc L) {id : Int} (hn : id ∈ L) : L = insD id L :=
  desc_ext h (insD_desc h) (fun x => by rw [insD_mem]; exact ⟨fun h => .inr h, fun hh => by rcases hh with rfl | h1; exact hn; exact h1⟩)
end Go.Proofs.Ytfncmkmhdddmiaa
