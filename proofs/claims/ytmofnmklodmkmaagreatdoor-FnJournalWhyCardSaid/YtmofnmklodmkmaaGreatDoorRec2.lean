/- Lines of records, read: plain mathematics. -/
import Derived.Test.YtmofnmklodmkmaaGreatDoorRec
set_option linter.unusedVariables false
set_option linter.unusedSimpArgs false
namespace Go.Proofs.YtmofnmklodmkmaaGreatDoor
open Go.RowKit

/-- A text, cut at its blanks. -/
def cstep (st : List Txt × Txt) (c : UInt8) : List Txt × Txt := if c = 32 then (st.1 ++ [st.2], []) else (st.1, st.2 ++ [c])
def cutF (l : Txt) : List Txt × Txt := l.foldl cstep ([], [])
def cutL (l : Txt) : List Txt := (cutF l).1 ++ [(cutF l).2]
theorem cut_free {l : Txt} : ∀ {o : List Txt} {c : Txt}, (∀ x ∈ l, okC x) → l.foldl cstep (o, c) = (o, c ++ l) := by
  induction l with
  | nil => intro o c _; simp
  | cons a l ih =>
    intro o c h
    have ha := (okC_ne (h a (List.mem_cons_self ..))).1
    rw [List.foldl_cons, show cstep (o, c) a = (o, c ++ [a]) by unfold cstep; rw [if_neg ha], ih fun x hx => h x (List.mem_cons_of_mem _ hx)]
    simp
theorem cut_word {a b : Txt} {o : List Txt} {c : Txt} (h : ∀ x ∈ a, okC x) : (a ++ 32 :: b).foldl cstep (o, c) = b.foldl cstep (o ++ [c ++ a], []) := by
  rw [List.foldl_append, cut_free h, List.foldl_cons]
  rfl
theorem cutL_join {a b c d e : Txt} (ha : ∀ x ∈ a, okC x) (hb : ∀ x ∈ b, okC x) (hc : ∀ x ∈ c, okC x) (hd : ∀ x ∈ d, okC x) (he : ∀ x ∈ e, okC x) :
    cutL (a ++ 32 :: (b ++ 32 :: (c ++ 32 :: d)) ++ 32 :: e) = [a, b, c, d, e] := by
  unfold cutL cutF
  rw [show a ++ 32 :: (b ++ 32 :: (c ++ 32 :: d)) ++ 32 :: e = a ++ 32 :: (b ++ 32 :: (c ++ 32 :: (d ++ 32 :: e))) by simp]
  rw [cut_word ha, cut_word hb, cut_word hc, cut_word hd, cut_free he]
  rfl
def tb (l : Txt) : ByteArray := ⟨l.toArray⟩
theorem tb_list (s : ByteArray) : tb s.data.toList = s := by cases s; unfold tb; simp
theorem tb_data (l : Txt) : (tb l).data.toList = l := by unfold tb; simp
theorem tb_inj {l m : Txt} (h : tb l = tb m) : l = m := by rw [← tb_data l, h, tb_data]
/-- The record of three words. -/
def ofW (a b c : Txt) : Rec := if a = wPost then (1, numL b, 0, tb c, ⟨#[]⟩) else if a = wMoved then (2, numL b, numL c, ⟨#[]⟩, ⟨#[]⟩) else if a = wFollow then (3, 0, 0, tb b, tb c) else if a = wUnf then (4, 0, 0, tb b, tb c) else re0
theorem ofW_wds {r : Rec} (h : reB r = true) : ofW (wds r).1 (wds r).2.1 (wds r).2.2 = r := by
  rcases re_ways h with ⟨i, s, rfl, hi, hs⟩ | ⟨i, d, rfl, hi, hd⟩ | ⟨s, t, rfl | rfl, hs, ht, _⟩
  · have := inR_iff.1 hi
    show ((1 : Int), numL (decL i.toNat), (0 : Int), tb s.data.toList, _) = _
    rw [numL_dec (by omega), tb_list, show ((i.toNat : Nat) : Int) = i by omega]
  · have := inR_iff.1 hi
    have := inT_iff.1 hd
    show ((2 : Int), numL (decL i.toNat), numL (decL d.toNat), _, _) = _
    rw [numL_dec (by omega), numL_dec (by omega), show ((i.toNat : Nat) : Int) = i by omega, show ((d.toNat : Nat) : Int) = d by omega]
  · show ((3 : Int), (0 : Int), (0 : Int), tb s.data.toList, tb t.data.toList) = _
    rw [tb_list, tb_list]
  · show ((4 : Int), (0 : Int), (0 : Int), tb s.data.toList, tb t.data.toList) = _
    rw [tb_list, tb_list]
def of5 : List Txt → Option (Txt × Txt × Txt × Txt)
  | [a, b, c, d, _] => some (a, b, c, d)
  | _ => none
/-- The place and the record of a line. -/
def fromL (s : Txt) : Option (Int × Rec) := (of5 (cutL s)).bind fun w => if s = [] ∨ textL (numL w.1) (ofW w.2.1 w.2.2.1 w.2.2.2) ≠ s then none else some (numL w.1, ofW w.2.1 w.2.2.1 w.2.2.2)
theorem fromL_some {s : Txt} {p : Int} {r : Rec} (h : fromL s = some (p, r)) : s ≠ [] ∧ textL p r = s := by
  unfold fromL at h
  rw [Option.bind_eq_some_iff] at h
  obtain ⟨w, _, h⟩ := h
  split at h
  · cases h
  · rename_i hc
    have hc' : s ≠ [] ∧ textL (numL w.1) (ofW w.2.1 w.2.2.1 w.2.2.2) = s := ⟨fun e => hc (.inl e), Classical.byContradiction fun e => hc (.inr e)⟩
    injection h with h
    injection h with h1 h2
    rw [← h1, ← h2]
    exact hc'
theorem textL_cut {p : Int} {r : Rec} (h : textL p r ≠ []) : cutL (textL p r) = [decL p.toNat, (wds r).1, (wds r).2.1, (wds r).2.2, decL (chk (join4 p.toNat r))] := by
  obtain ⟨h1, h2, h3⟩ := textL_ne h
  have hp := inP_iff.1 h1
  have hw := wds_ok h2
  have hc := chk_lt (join4 p.toNat r)
  rw [h3]
  exact cutL_join (dec_ok (by omega)) hw.1 hw.2.1 hw.2.2 (dec_ok (by omega))
theorem fromL_text {p : Int} {r : Rec} (h : textL p r ≠ []) : fromL (textL p r) = some (p, r) := by
  obtain ⟨h1, h2, _⟩ := textL_ne h
  have hp := inP_iff.1 h1
  unfold fromL
  rw [textL_cut h]
  show (if textL p r = [] ∨ textL (numL (decL p.toNat)) (ofW (wds r).1 (wds r).2.1 (wds r).2.2) ≠ textL p r then none else some (numL (decL p.toNat), ofW (wds r).1 (wds r).2.1 (wds r).2.2)) = _
  rw [numL_dec (by omega), ofW_wds h2, show ((p.toNat : Nat) : Int) = p by omega, if_neg (by simp [h])]

/-- A line: a text with three blanks, a blank, its check. -/
structure Ln (s t : Txt) : Prop where
  eq : s = t ++ 32 :: decL (chk t)
  three : t.count 32 = 3
  ok : ∀ c ∈ s, c = 32 ∨ okC c
theorem count_ok {l : Txt} (h : ∀ x ∈ l, okC x) : l.count 32 = 0 := List.count_eq_zero.2 fun hm => (okC_ne (h 32 hm)).1 rfl
theorem ln_of {p : Int} {r : Rec} (h : textL p r ≠ []) : Ln (textL p r) (join4 p.toNat r) := by
  obtain ⟨h1, h2, h3⟩ := textL_ne h
  have hp := inP_iff.1 h1
  obtain ⟨a1, a2, a3⟩ := wds_ok h2
  have a0 := dec_ok (n := p.toNat) (by omega)
  have a4 := dec_ok (n := chk (join4 p.toNat r)) (by have := chk_lt (join4 p.toNat r); omega)
  refine ⟨h3, ?_, fun c hc => ?_⟩
  · unfold join4
    simp only [List.count_append, List.count_cons, count_ok a0, count_ok a1, count_ok a2, count_ok a3]
    simp
  · rw [h3] at hc
    unfold lineL at hc
    rw [List.mem_append, List.mem_cons] at hc
    rcases hc with hc | rfl | hc
    · unfold join4 at hc
      simp only [List.mem_append, List.mem_cons] at hc
      rcases hc with hc | rfl | hc | rfl | hc | rfl | hc
      · exact .inr (a0 c hc)
      · exact .inl rfl
      · exact .inr (a1 c hc)
      · exact .inl rfl
      · exact .inr (a2 c hc)
      · exact .inl rfl
      · exact .inr (a3 c hc)
    · exact .inl rfl
    · exact .inr (a4 c hc)
theorem dec_free (t : Txt) : (32 : UInt8) ∉ decL (chk t) := fun h => (okC_ne (dec_ok (by have := chk_lt t; omega) 32 h)).1 rfl
theorem Ln.four {s t : Txt} (h : Ln s t) : s.count 32 = 4 := by
  rw [h.eq, List.count_append, List.count_cons, h.three, List.count_eq_zero.2 (dec_free t)]
  rfl
/-- The last blank parts a text in one way. -/
theorem last_blank : ∀ {t u c d : Txt}, t ++ (32 : UInt8) :: c = u ++ 32 :: d → (32 : UInt8) ∉ c → (32 : UInt8) ∉ d → t = u ∧ c = d := by
  intro t u c d h hc hd
  rcases List.append_eq_append_iff.1 h with ⟨a, h1, h2⟩ | ⟨a, h1, h2⟩
  · cases a with
    | nil => simp at h1 h2; exact ⟨h1.symm, h2⟩
    | cons x a =>
      injection h2 with _ h2
      exact absurd (by rw [h2]; simp) hc
  · cases a with
    | nil => simp at h1 h2; exact ⟨h1, h2.symm⟩
    | cons x a =>
      injection h2 with _ h2
      exact absurd (by rw [h2]; simp) hd
theorem dec_ne (t : Txt) : decL (chk t) ≠ [] := fun e => by have := (@decL_len (chk t)).1; rw [e] at this; simp at this
/-- Without its last letter a line is none. -/
theorem ln_cut {s t : Txt} (h : Ln s t) : fromL s.dropLast = none := by
  cases hf : fromL s.dropLast with
  | none => rfl
  | some x =>
    obtain ⟨h1, h2⟩ := fromL_some (p := x.1) (r := x.2) hf
    have h3 := ln_of (p := x.1) (r := x.2) (by rw [h2]; exact h1)
    rw [h2] at h3
    have e := h3.eq
    rw [h.eq, List.dropLast_append_of_ne_nil (by simp), List.dropLast_cons_of_ne_nil (dec_ne t)] at e
    obtain ⟨e1, e2⟩ := last_blank e (fun hm => dec_free t (List.dropLast_subset _ hm)) (dec_free _)
    rw [← e1] at e2
    have e3 := congrArg List.length e2
    rw [List.length_dropLast] at e3
    have := (@decL_len (chk t)).1
    omega
/-- With a further letter, too. -/
theorem ln_more {s t : Txt} (h : Ln s t) : fromL (s ++ [48]) = none := by
  cases hf : fromL (s ++ [48]) with
  | none => rfl
  | some x =>
    obtain ⟨h1, h2⟩ := fromL_some (p := x.1) (r := x.2) hf
    have h3 := ln_of (p := x.1) (r := x.2) (by rw [h2]; exact h1)
    rw [h2] at h3
    have e := h3.eq
    rw [h.eq, List.append_assoc] at e
    obtain ⟨e1, e2⟩ := last_blank (show t ++ 32 :: (decL (chk t) ++ [48]) = _ from e) (fun hm => by rcases List.mem_append.1 hm with hm | hm; exact dec_free t hm; simp at hm) (dec_free _)
    rw [← e1] at e2
    have e3 := congrArg List.length e2
    rw [List.length_append] at e3
    simp at e3
/-- A letter becomes the next one: it is noticed. -/
theorem ln_damage {t a b : Txt} {x : UInt8} (h : Ln (a ++ x :: b) t) : fromL (a ++ (x + 1) :: b) = none := by
  cases hf : fromL (a ++ (x + 1) :: b) with
  | none => rfl
  | some y =>
    exfalso
    obtain ⟨h1, h2⟩ := fromL_some (p := y.1) (r := y.2) hf
    have h3 := ln_of (p := y.1) (r := y.2) (by rw [h2]; exact h1)
    rw [h2] at h3
    have h4 := h.four
    have h5 := h3.four
    rw [List.count_append, List.count_cons] at h4 h5
    rcases h.ok x (by simp) with rfl | hx
    · simp at h4 h5
      omega
    obtain ⟨n1, n2, n3⟩ := okC_ne hx
    have e := h3.eq
    have e0 := h.eq
    rcases List.append_eq_append_iff.1 e0 with ⟨m, k1, k2⟩ | ⟨m, k1, k2⟩
    · cases m with
      | nil =>
        simp at k1 k2
        exact n1 k2.1
      | cons z m =>
        injection k2 with k3 k4
        subst k3
        rw [k4] at e
        obtain ⟨e1, e2⟩ := last_blank ((List.append_assoc a ((x + 1) :: m) (32 :: decL (chk t))).trans e) (dec_free t) (dec_free _)
        rw [← e1, k1] at e2
        exact chk_ne n3 (decL_inj (by have := chk_lt (a ++ x :: m); omega) (by have := chk_lt (a ++ (x + 1) :: m); omega) e2)
    · cases m with
      | nil =>
        simp at k1 k2
        exact n1 k2.1.symm
      | cons z m =>
        injection k2 with k3 k4
        subst k3
        have hfree := dec_free t
        rw [k4] at hfree
        have hfree2 : (32 : UInt8) ∉ m ++ (x + 1) :: b := fun hm => by
          rcases List.mem_append.1 hm with hm | hm
          · exact hfree (List.mem_append_left _ hm)
          · rcases List.mem_cons.1 hm with hm | hm
            · exact n2 hm.symm
            · exact hfree (List.mem_append_right _ (List.mem_cons_of_mem _ hm))
        rw [k1] at e
        obtain ⟨e1, e2⟩ := last_blank (show t ++ 32 :: (m ++ (x + 1) :: b) = _ by rw [← e]; simp) hfree2 (dec_free _)
        rw [← e1, k4] at e2
        have e3 := List.append_cancel_left e2
        injection e3 with e3 _
        have := congrArg UInt8.toNat e3
        omega
/-- Another place, another line. -/
theorem text_place {p : Int} {r : Rec} (h : textL p r ≠ []) : textL (p + 1) r ≠ textL p r := fun e => by
  have h1 := fromL_text h
  have h2 := fromL_text (p := p + 1) (r := r) (by rw [e]; exact h)
  rw [e, h1] at h2
  injection h2 with h2
  injection h2 with h2 _
  omega
theorem re_part {r : Rec} (h : reB r = true) : reB (r.1, -1, r.2.2) = false ∧ reB (0, r.2) = false := by
  refine ⟨?_, reB_0 (.inl (by show (0 : Int) < 1; omega))⟩
  rcases re_ways h with ⟨i, s, rfl, hi, hs⟩ | ⟨i, d, rfl, hi, hd⟩ | ⟨s, t, rfl | rfl, hs, ht, _⟩ <;> rfl
end Go.Proofs.YtmofnmklodmkmaaGreatDoor
