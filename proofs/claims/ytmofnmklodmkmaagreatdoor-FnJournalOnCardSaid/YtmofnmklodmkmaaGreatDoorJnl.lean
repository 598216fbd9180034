/- Journals: plain mathematics. -/
import Derived.Test.YtmofnmklodmkmaaGreatDoorRec2
set_option linter.unusedVariables false
set_option linter.unusedSimpArgs false
namespace Go.Proofs.YtmofnmklodmkmaaGreatDoor
open Go.RowKit

/-- The first line of a text, and the rest. -/
def nl : Txt → Option (Txt × Txt)
  | [] => none
  | c :: s => if c = 10 then some ([], s) else (nl s).map fun x => (c :: x.1, x.2)
theorem nl_none {s : Txt} (h : (10 : UInt8) ∉ s) : nl s = none := by
  induction s with
  | nil => rfl
  | cons c s ih =>
    unfold nl
    rw [if_neg (fun e => h (by rw [e]; exact List.mem_cons_self ..)), ih fun hm => h (List.mem_cons_of_mem _ hm)]
    rfl
theorem nl_some {l s : Txt} (h : (10 : UInt8) ∉ l) : nl (l ++ 10 :: s) = some (l, s) := by
  induction l with
  | nil => rfl
  | cons c l ih =>
    rw [List.cons_append]
    unfold nl
    rw [if_neg (fun e => h (by rw [e]; exact List.mem_cons_self ..)), ih fun hm => h (List.mem_cons_of_mem _ hm)]
    rfl
theorem nl_eq {s l r : Txt} : nl s = some (l, r) → s = l ++ 10 :: r ∧ (10 : UInt8) ∉ l := by
  induction s generalizing l with
  | nil => intro h; cases h
  | cons c s ih =>
    intro h
    unfold nl at h
    split at h
    · rename_i e
      injection h with h
      injection h with h1 h2
      subst h1 h2 e
      exact ⟨rfl, by simp⟩
    · rename_i e
      cases hn : nl s with
      | none => rw [hn] at h; cases h
      | some x =>
        rw [hn] at h
        injection h with h
        injection h with h1 h2
        obtain ⟨e1, e2⟩ := ih (l := x.1) (by rw [hn, ← h2])
        subst h1
        refine ⟨by rw [e1]; rfl, ?_⟩
        intro hm
        rcases List.mem_cons.1 hm with hm | hm
        · exact e hm.symm
        · exact e2 hm
theorem nl_not {s : Txt} (h : nl s = none) : (10 : UInt8) ∉ s := by
  induction s with
  | nil => simp
  | cons c s ih =>
    unfold nl at h
    split at h
    · cases h
    · rename_i e
      intro hm
      rcases List.mem_cons.1 hm with hm | hm
      · exact e hm.symm
      · refine ih ?_ hm
        cases hn : nl s with
        | none => rfl
        | some x => rw [hn] at h; cases h

def jFine : Int := 0
def jTorn : Int := 1
def jBad : Int := 2
/-- A journal, read from a place on. -/
def jg (out : List Rec) (n : Nat) (s : Txt) : List Rec × Nat × Int :=
  if s = [] then (out, n, jFine) else match h : nl s with
  | none => (out, n, jTorn)
  | some (l, rest) => match fromL l with
    | none => (out, n, jBad)
    | some (p, r) => if p = (out.length : Int) + 1 then jg (out ++ [r]) (n + (l.length + 1)) rest else (out, n, jBad)
termination_by s.length
decreasing_by
  rw [(nl_eq h).1]
  simp
  omega
def jf (s : Txt) : List Rec × Nat × Int := jg [] 0 s
theorem jg_nil (out : List Rec) (n : Nat) : jg out n [] = (out, n, jFine) := by rw [jg]; rfl
theorem jg_torn {out : List Rec} {n : Nat} {s : Txt} (h : s ≠ []) (h1 : (10 : UInt8) ∉ s) : jg out n s = (out, n, jTorn) := by
  rw [jg, if_neg h]
  split
  · rfl
  · rename_i hn; rw [nl_none h1] at hn; cases hn
theorem jg_line {out : List Rec} {n : Nat} {l rest : Txt} (h : (10 : UInt8) ∉ l) : jg out n (l ++ 10 :: rest) = (match fromL l with
    | none => (out, n, jBad)
    | some (p, r) => if p = (out.length : Int) + 1 then jg (out ++ [r]) (n + (l.length + 1)) rest else (out, n, jBad)) := by
  rw [jg, if_neg (by simp)]
  split
  · rename_i hn; rw [nl_some h] at hn; cases hn
  · rename_i l' rest' hn
    rw [nl_some h] at hn
    injection hn with hn
    injection hn with h1 h2
    subst h1 h2
    rfl

theorem ok10 {c : UInt8} (h : okC c) : c ≠ 10 := by
  rintro rfl
  rcases h with h | h
  · exact absurd h (by decide)
  · exact absurd h (by decide)
theorem text_free (p : Int) (r : Rec) : (10 : UInt8) ∉ textL p r := by
  by_cases h : textL p r = []
  · rw [h]; simp
  · intro hm
    rcases (ln_of h).ok 10 hm with h1 | h1
    · cases h1
    · exact ok10 h1 rfl
theorem text_full {p : Nat} {r : Rec} (hp : p < 30) (h : reB r = true) : textL ((p : Int) + 1) r ≠ [] := by
  rw [textL_t (by rw [inP_iff]; omega) h]
  unfold lineL
  intro e
  have := congrArg List.length e
  simp at this

/-- Lines from a place on. -/
def jls : Nat → List Rec → Txt
  | _, [] => []
  | k, r :: L => textL ((k : Int) + 1) r ++ 10 :: jls (k + 1) L
theorem jls_app {L M : List Rec} : ∀ {k : Nat}, jls k (L ++ M) = jls k L ++ jls (k + L.length) M := by
  induction L with
  | nil => intro k; rfl
  | cons r L ih =>
    intro k
    show textL ((k : Int) + 1) r ++ 10 :: jls (k + 1) (L ++ M) = (textL ((k : Int) + 1) r ++ 10 :: jls (k + 1) L) ++ _
    rw [ih, List.length_cons, show k + 1 + L.length = k + (L.length + 1) by omega]
    simp
theorem jls_count {L : List Rec} : ∀ {k : Nat}, (jls k L).count 10 = L.length := by
  induction L with
  | nil => intro k; rfl
  | cons r L ih =>
    intro k
    show (textL ((k : Int) + 1) r ++ 10 :: jls (k + 1) L).count 10 = _
    rw [List.count_append, List.count_cons, ih, List.count_eq_zero.2 (text_free _ _)]
    simp
theorem jls_ne {k : Nat} {L : List Rec} (h : L ≠ []) : jls k L ≠ [] := by
  cases L with
  | nil => exact absurd rfl h
  | cons r L => show textL ((k : Int) + 1) r ++ 10 :: jls (k + 1) L ≠ []; simp
theorem jls_last {L : List Rec} : ∀ {k : Nat}, L ≠ [] → (jls k L).getLast? = some 10 := by
  induction L with
  | nil => intro k h; exact absurd rfl h
  | cons r L ih =>
    intro k _
    show (textL ((k : Int) + 1) r ++ 10 :: jls (k + 1) L).getLast? = _
    rw [List.getLast?_append, List.getLast?_cons]
    by_cases h : L = []
    · subst h; rfl
    · rw [ih h]; rfl
/-- Valid lines are read, and the rest is read on. -/
theorem jg_lines {L : List Rec} : ∀ {out : List Rec} {n : Nat} {rest : Txt}, (∀ r ∈ L, reB r = true) → out.length + L.length ≤ 30 → jg out n (jls out.length L ++ rest) = jg (out ++ L) (n + (jls out.length L).length) rest := by
  induction L with
  | nil => intro out n rest _ _; rw [List.append_nil]; rfl
  | cons r L ih =>
    intro out n rest hv hl
    rw [List.length_cons] at hl
    have hne := text_full (p := out.length) (by omega) (hv r (List.mem_cons_self ..))
    have h1 := ih (out := out ++ [r]) (n := n + ((textL ((out.length : Int) + 1) r).length + 1)) (rest := rest) (fun x hx => hv x (List.mem_cons_of_mem _ hx)) (by simp; omega)
    rw [List.length_append, List.length_singleton] at h1
    show jg out n ((textL ((out.length : Int) + 1) r ++ 10 :: jls (out.length + 1) L) ++ rest) = jg _ (n + (textL ((out.length : Int) + 1) r ++ 10 :: jls (out.length + 1) L).length) rest
    rw [List.append_assoc, List.cons_append, jg_line (text_free _ _), fromL_text hne]
    show (if _ then _ else _) = _
    rw [if_pos rfl, h1]
    congr 1
    · simp
    · simp; omega
/-- What is read are lines: those of the records, then a rest that holds no further one. -/
theorem jg_sound (m : Nat) : ∀ (out : List Rec) (n : Nat) (s : Txt), s.length ≤ m → out.length ≤ 30 → ∃ (Y : List Rec) (rest : Txt) (why : Int), jg out n s = (out ++ Y, n + (jls out.length Y).length, why) ∧ s = jls out.length Y ++ rest ∧ (∀ r ∈ Y, reB r = true) ∧ out.length + Y.length ≤ 30 ∧ (why = jFine ↔ rest = []) ∧ (why = jFine ∨ why = jTorn ∨ why = jBad) := by
  induction m with
  | zero =>
    intro out n s hm ho
    have : s = [] := List.eq_nil_of_length_eq_zero (by omega)
    subst this
    exact ⟨[], [], jFine, by rw [jg_nil, List.append_nil]; rfl, rfl, by simp, by simpa using ho, by simp, .inl rfl⟩
  | succ m ih =>
    intro out n s hm ho
    by_cases hs : s = []
    · subst hs
      exact ⟨[], [], jFine, by rw [jg_nil, List.append_nil]; rfl, rfl, by simp, by simpa using ho, by simp, .inl rfl⟩
    cases hn : nl s with
    | none => exact ⟨[], s, jTorn, by rw [jg_torn hs (nl_not hn), List.append_nil]; rfl, rfl, by simp, by simpa using ho, by simp [hs, jTorn, jFine], .inr (.inl rfl)⟩
    | some x =>
      obtain ⟨l, rest⟩ := x
      obtain ⟨e, hf⟩ := nl_eq hn
      have bad : jg out n s = (out, n, jBad) → ∃ (Y : List Rec) (rest : Txt) (why : Int), jg out n s = (out ++ Y, n + (jls out.length Y).length, why) ∧ s = jls out.length Y ++ rest ∧ (∀ r ∈ Y, reB r = true) ∧ out.length + Y.length ≤ 30 ∧ (why = jFine ↔ rest = []) ∧ (why = jFine ∨ why = jTorn ∨ why = jBad) := fun h =>
        ⟨[], s, jBad, by rw [h, List.append_nil]; rfl, rfl, by simp, by simpa using ho, by simp [hs, jBad, jFine], .inr (.inr rfl)⟩
      cases hfr : fromL l with
      | none => exact bad (by rw [e, jg_line hf, hfr])
      | some y =>
        obtain ⟨p, r⟩ := y
        by_cases hp : p = (out.length : Int) + 1
        · obtain ⟨h1, h2⟩ := fromL_some hfr
          obtain ⟨h3, h4, _⟩ := textL_ne (p := p) (r := r) (by rw [h2]; exact h1)
          have hp30 := inP_iff.1 h3
          have hlen : rest.length ≤ m := by rw [e] at hm; simp at hm; omega
          obtain ⟨Y, rst, why, g1, g2, g3, g4, g5, g6⟩ := ih (out ++ [r]) (n + (l.length + 1)) rest hlen (by simp; omega)
          rw [List.length_append, List.length_singleton] at g1 g2 g4
          have hj : jls out.length (r :: Y) = l ++ 10 :: jls (out.length + 1) Y := by
            show textL ((out.length : Int) + 1) r ++ _ = _
            rw [← hp, h2]
          refine ⟨r :: Y, rst, why, ?_, ?_, ?_, ?_, g5, g6⟩
          · rw [e, jg_line hf, hfr]
            show (if _ then _ else _) = _
            rw [if_pos hp, g1, hj]
            simp
            omega
          · rw [e, hj, g2]; simp
          · intro x hx
            rcases List.mem_cons.1 hx with rfl | hx
            · exact h4
            · exact g3 x hx
          · rw [List.length_cons]; omega
        · refine bad ?_
          rw [e, jg_line hf, hfr]
          show (if _ then _ else _) = _
          rw [if_neg hp]

/-- A journal's records: valid ones, not too many. -/
def jB (L : List Rec) : Bool := L.all reB && decide (L.length ≤ 30)
theorem jB_iff {L : List Rec} : jB L = true ↔ (∀ r ∈ L, reB r = true) ∧ L.length ≤ 30 := by unfold jB; simp
def jl (L : List Rec) : Txt := if jB L = true then jls 0 L else []
theorem jl_t {L : List Rec} (h : jB L = true) : jl L = jls 0 L := by unfold jl; rw [if_pos h]
theorem jl_f {L : List Rec} (h : jB L = false) : jl L = [] := by unfold jl; rw [h]; rfl
theorem jl_ne {L : List Rec} (h : jl L ≠ []) : jB L = true ∧ L ≠ [] := by
  cases hb : jB L with
  | false => exact absurd (jl_f hb) h
  | true =>
    refine ⟨rfl, ?_⟩
    rintro rfl
    exact h (jl_t hb)
theorem jf_jl {L : List Rec} (h : jB L = true) : jf (jl L) = (L, (jl L).length, jFine) := by
  obtain ⟨h1, h2⟩ := jB_iff.1 h
  rw [jl_t h]
  have := jg_lines (L := L) (out := []) (n := 0) (rest := []) h1 (by simpa using h2)
  rw [List.append_nil, List.nil_append, jg_nil, Nat.zero_add] at this
  exact this
theorem jf_on {L : List Rec} (h : jB L = true) (t : Txt) : jf (jl L ++ t) = jg L (jl L).length t := by
  obtain ⟨h1, h2⟩ := jB_iff.1 h
  rw [jl_t h]
  have := jg_lines (L := L) (out := []) (n := 0) (rest := t) h1 (by simpa using h2)
  rw [List.nil_append, Nat.zero_add] at this
  exact this
theorem jf_sound (s : Txt) : ∃ (Y : List Rec) (rest : Txt) (why : Int), jf s = (Y, (jl Y).length, why) ∧ s = jl Y ++ rest ∧ jB Y = true ∧ (why = jFine ↔ rest = []) ∧ (why = jFine ∨ why = jTorn ∨ why = jBad) := by
  obtain ⟨Y, rest, why, h1, h2, h3, h4, h5, h6⟩ := jg_sound s.length [] 0 s (Nat.le_refl _) (by simp)
  have hb : jB Y = true := jB_iff.2 ⟨h3, by simpa using h4⟩
  refine ⟨Y, rest, why, ?_, ?_, hb, h5, h6⟩
  · rw [jl_t hb]
    rw [List.nil_append, Nat.zero_add] at h1
    exact h1
  · rw [jl_t hb]; exact h2
/-- A beginning that is not the whole: some of the records, fewer, and it is not bad. -/
theorem jg_begin {L : List Rec} : ∀ {out : List Rec} {n : Nat} {t u : Txt}, (∀ r ∈ L, reB r = true) → out.length + L.length ≤ 30 → jls out.length L = t ++ u → u ≠ [] → ∃ j why n', jg out n t = (out ++ L.take j, n', why) ∧ j < L.length ∧ why ≠ jBad ∧ (u.length = 1 → why = jTorn ∧ j + 1 = L.length) := by
  induction L with
  | nil =>
    intro out n t u _ _ h hu
    have : t ++ u = [] := h.symm
    exact absurd (List.append_eq_nil_iff.1 this).2 hu
  | cons r L ih =>
    intro out n t u hv hl h hu
    rw [List.length_cons] at hl
    have hne := text_full (p := out.length) (by omega) (hv r (List.mem_cons_self ..))
    have h' : textL ((out.length : Int) + 1) r ++ 10 :: jls (out.length + 1) L = t ++ u := h
    rcases List.append_eq_append_iff.1 h' with ⟨a, e1, e2⟩ | ⟨a, e1, e2⟩
    · cases a with
      | nil =>
        rw [List.append_nil] at e1
        subst e1
        refine ⟨0, jTorn, n, by rw [jg_torn hne (text_free _ _)]; simp, by simp, by decide, fun h1 => ⟨rfl, ?_⟩⟩
        rw [List.nil_append] at e2
        rw [← e2] at h1
        rw [List.length_cons] at h1
        have : jls (out.length + 1) L = [] := List.eq_nil_of_length_eq_zero (by omega)
        cases L with
        | nil => rfl
        | cons x L => exact absurd this (jls_ne (by simp))
      | cons c a =>
        rw [List.cons_append] at e2
        injection e2 with e3 e4
        subst e3
        obtain ⟨j, why, n', g1, g2, g3, g4⟩ := ih (out := out ++ [r]) (n := n + ((textL ((out.length : Int) + 1) r).length + 1)) (t := a) (u := u) (fun x hx => hv x (List.mem_cons_of_mem _ hx)) (by simp; omega) (by rw [List.length_append, List.length_singleton]; exact e4) hu
        refine ⟨j + 1, why, n', ?_, by simp; omega, g3, fun h1 => ⟨(g4 h1).1, by have := (g4 h1).2; simp; omega⟩⟩
        rw [e1, jg_line (text_free _ _), fromL_text hne]
        show (if _ then _ else _) = _
        rw [if_pos rfl, g1]
        simp
    · by_cases ht : t = []
      · subst ht
        refine ⟨0, jFine, n, by rw [jg_nil]; simp, by simp, by decide, fun h1 => ?_⟩
        rw [List.nil_append] at h'
        rw [← h'] at h1
        have : (textL ((out.length : Int) + 1) r).length = 0 := by simp at h1; omega
        exact absurd (List.eq_nil_of_length_eq_zero this) hne
      · have hft : (10 : UInt8) ∉ t := fun hm => text_free ((out.length : Int) + 1) r (by rw [e1]; exact List.mem_append_left _ hm)
        refine ⟨0, jTorn, n, by rw [jg_torn ht hft]; simp, by simp, by decide, fun h1 => ⟨rfl, ?_⟩⟩
        rw [e2, List.length_append, List.length_cons] at h1
        have h2 : jls (out.length + 1) L = [] := List.eq_nil_of_length_eq_zero (by omega)
        cases L with
        | nil => rfl
        | cons x L => exact absurd h2 (jls_ne (by simp))
end Go.Proofs.YtmofnmklodmkmaaGreatDoor
