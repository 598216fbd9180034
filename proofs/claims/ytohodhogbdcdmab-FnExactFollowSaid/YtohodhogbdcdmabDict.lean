/- The book of accounts: a map of the call's own, from names to slices of names. -/
import Derived.Test.YtohodhogbdcdmabAw
import Derived.Test.YtohodhogbdcdmabProg
import Derived.Maps.Own
import Derived.StringKeys
import Derived.Maps.OwnOps
import Derived.Maps.Views
import Derived.Maps.Ext
set_option linter.unusedVariables false
namespace Go.Proofs.Ytohodhogbdcdmab
open Go.RowKit Go.Maps Go.MapKept Go.ChangeMaps

/-- How an element reads: as itself. -/
def Rv (v : Value) : Option (DataW Value × List MemPlace) := some (.held v, [])
theorem keyT : Keyed Try.prog 9 := string_keyed Try.underlying9
def kl (s : ByteArray) : Go.Lit := .string s.data.toList
theorem kl_inj {s t : ByteArray} (h : kl s = kl t) : s = t := by
  unfold kl at h
  injection h with h
  cases s; cases t
  exact congrArg ByteArray.mk (Array.toList_inj.1 h)
theorem kl_key (s : ByteArray) : WideAt.IsKeyLit (kl s) := trivial
theorem keyOf_s {s : ByteArray} (hs : s.size ≤ maxLen) : keyOf Try.prog 9 (.string s) = some (kl s) := WideMaps.keyOf_string_mk Try.underlying9 hs

/-- Block b is a map that reads as the accounts M, the followers' slices in blocks of which ok speaks. -/
def Book (w : World) (ok : Nat → Prop) (b n : Nat) (M : List Acc) : Prop :=
  ∃ D : DataW Value, w.ownsMap Try.prog 9 Rv b n D ∧ Tidy D ∧ (∀ s, has D (kl s) = memB (nms M) s) ∧ (∀ s, s ∈ nms M → ∃ v, (∀ z, D.atKey (kl s) z = .held v) ∧ Fls w ok v (fol M s))
section
variable {w w' : World} {ok ok' : Nat → Prop} {b n : Nat} {M : List Acc}
theorem Book.keep {row : Option Nat} (h : Book w ok b n M) (hg : w.grownBy w' row) (hne : some b ≠ row) (hk : ∀ p : Addr, ok p.block → w'.cell? p = w.cell? p) : Book w' ok b n M := by
  obtain ⟨D, h1, h2, h3, h4⟩ := h
  exact ⟨D, h1.kept hg hne, h2, h3, fun s hs => by obtain ⟨v, g1, g2⟩ := h4 s hs; exact ⟨v, g1, g2.keep hk⟩⟩
theorem Book.more (h : Book w ok b n M) (hk : ∀ g, ok g → ok' g) : Book w ok' b n M := by
  obtain ⟨D, h1, h2, h3, h4⟩ := h
  exact ⟨D, h1, h2, h3, fun s hs => by obtain ⟨v, g1, g2⟩ := h4 s hs; exact ⟨v, g1, g2.more hk⟩⟩
theorem Book.lt (h : Book w ok b n M) : b < w.heap.size := by obtain ⟨D, h1, _⟩ := h; exact h1.lt
theorem Book.made (w : World) (ok : Nat → Prop) : Book (w.alloc (.map #[] 0)) ok w.heap.size 0 [] :=
  ⟨_, World.ownsMap_made _ _ _ _, tidy_empty, fun s => rfl, fun s hs => by simp [nms] at hs⟩
theorem Fls.nilv : Fls w ok (.slice none 0 0) [] := ⟨none, 0, 0, rfl, Nat.le_refl _, Nat.zero_le _, rfl, fun h => absurd h (by omega)⟩

theorem fol_snoc {M : List Acc} {s t : ByteArray} {F : List ByteArray} (hs : s ∉ nms M) : fol (M ++ [(s, F)]) t = if s = t then F else fol M t := by
  unfold fol
  rw [List.find?_append]
  by_cases e : s = t
  · subst e
    have : M.find? (fun a => decide (a.1 = s)) = none := by
      rw [List.find?_eq_none]
      intro a ha
      have : a.1 ≠ s := fun e => hs (e ▸ List.mem_map_of_mem ha)
      simpa using this
    rw [this]; simp
  · rw [if_neg e]
    cases M.find? (fun a => decide (a.1 = t)) <;> simp [e]
/-- m[s] = v for a new name. -/
theorem Book.snoc {M : List Acc} {D : DataW Value} {s : ByteArray} {v : Value} {F : List ByteArray} (h2 : Tidy D) (h3 : ∀ s, has D (kl s) = memB (nms M) s) (h4 : ∀ s, s ∈ nms M → ∃ v, (∀ z, D.atKey (kl s) z = .held v) ∧ Fls w ok v (fol M s))
    (hs : s ∉ nms M) (hv : Fls w' ok v F) (hk : ∀ p : Addr, ok p.block → w'.cell? p = w.cell? p) (h1 : w'.ownsMap Try.prog 9 Rv b n (D.put (kl s) (.held v))) : Book w' ok b n (M ++ [(s, F)]) := by
  have hn : nms (M ++ [(s, F)]) = nms M ++ [s] := by unfold nms; simp
  refine ⟨_, h1, h2.put (kl_key s) _, fun t => ?_, fun t ht => ?_⟩
  · rw [hn]
    by_cases e : t = s
    · subst e; rw [has_put_same h2.isMap (kl_key t), memB_t (by simp)]
    · rw [has_put_other (fun h => e (kl_inj h)), h3 t]
      unfold memB; simp [show ¬ s = t from fun h => e h.symm]
  · rw [fol_snoc hs]
    by_cases e : s = t
    · subst e; rw [if_pos rfl]; exact ⟨v, fun z => atKey_put_same h2.isMap (kl_key s) _ _, hv⟩
    · rw [if_neg e]
      have ht' : t ∈ nms M := by
        rw [hn, List.mem_append] at ht
        rcases ht with h | h
        · exact h
        · exact absurd (List.mem_singleton.1 h).symm e
      obtain ⟨v', g1, g2⟩ := h4 t ht'
      exact ⟨v', fun z => by rw [atKey_put_other (fun h => e (kl_inj h).symm)]; exact g1 z, g2.keep hk⟩
theorem fol_setF {M : List Acc} {s t : ByteArray} {F : List ByteArray} (h : s ∈ nms M) : fol (setF M s F) t = if s = t then F else fol M t := by
  induction M with
  | nil => simp [nms] at h
  | cons a M ih =>
    unfold fol setF
    rw [List.map_cons, List.find?_cons, List.find?_cons]
    by_cases e : s = t
    · subst e
      rw [if_pos rfl]
      by_cases ea : a.1 = s
      · simp [ea]
      · have hs : s ∈ nms M := by
          unfold nms at h ⊢
          rcases List.mem_cons.1 h with h | h
          · exact absurd h.symm ea
          · exact h
        have := ih hs
        rw [if_pos rfl] at this
        simp only [ea, if_false]
        simpa [fol, setF, ea] using this
    · rw [if_neg e]
      by_cases ea : a.1 = s
      · have hat : ¬ a.1 = t := fun h => e (ea.symm.trans h)
        simp only [ea, if_true]
        have hst : decide (s = t) = false := by simp [e]
        rw [hst]
        simp only
        by_cases hs : s ∈ nms M
        · have := ih hs
          rw [if_neg e] at this
          simpa [fol, setF] using this
        · have hM : M.map (fun a => if a.1 = s then (a.1, F) else a) = M := by
            have : ∀ a ∈ M, (if a.1 = s then (a.1, F) else a) = a := fun a ha => by
              exact if_neg (fun h => hs (by rw [← h]; exact List.mem_map_of_mem ha))
            rw [List.map_congr_left this, List.map_id']
          rw [hM]
      · simp only [ea, if_false]
        by_cases hat : a.1 = t
        · simp [hat]
        · have hs : s ∈ nms M := by
            unfold nms at h ⊢
            rcases List.mem_cons.1 h with h | h
            · exact absurd h.symm ea
            · exact h
          have := ih hs
          rw [if_neg e] at this
          have hst : decide (a.1 = t) = false := by simp [hat]
          rw [hst]
          simpa [fol, setF] using this
/-- m[s] = v for a name that is there. -/
theorem Book.set {M : List Acc} {D : DataW Value} {s : ByteArray} {v : Value} {F : List ByteArray} (h2 : Tidy D) (h3 : ∀ s, has D (kl s) = memB (nms M) s) (h4 : ∀ s, s ∈ nms M → ∃ v, (∀ z, D.atKey (kl s) z = .held v) ∧ Fls w ok v (fol M s))
    (hs : s ∈ nms M) (hv : Fls w' ok v F) (hk : ∀ p : Addr, ok p.block → w'.cell? p = w.cell? p) (h1 : w'.ownsMap Try.prog 9 Rv b n (D.put (kl s) (.held v))) : Book w' ok b n (setF M s F) := by
  refine ⟨_, h1, h2.put (kl_key s) _, fun t => ?_, fun t ht => ?_⟩
  · rw [setF_nms]
    by_cases e : t = s
    · subst e; rw [has_put_same h2.isMap (kl_key t), memB_t hs]
    · rw [has_put_other (fun h => e (kl_inj h)), h3 t]
  · rw [setF_nms] at ht
    rw [fol_setF hs]
    by_cases e : s = t
    · subst e; rw [if_pos rfl]; exact ⟨v, fun z => atKey_put_same h2.isMap (kl_key s) _ _, hv⟩
    · rw [if_neg e]
      obtain ⟨v', g1, g2⟩ := h4 t ht
      exact ⟨v', fun z => by rw [atKey_put_other (fun h => e (kl_inj h).symm)]; exact g1 z, g2.keep hk⟩

theorem zeroN (w : World) : (zeroValue 61).run Try.prog w = .ok (.slice none 0 0) w := by kernel_rfl
/-- m[s]. -/
theorem Book.look (h : Book w ok b n M) {s : ByteArray} (hs : s.size ≤ maxLen) : ∃ v, (Instr.lookup 58 (.map (some b)) (.string s) false).run Try.prog w = .ok v w ∧ Fls w ok v (fol M s) := by
  obtain ⟨D, h1, h2, h3, h4⟩ := h
  obtain ⟨v, ps, hrun, hv⟩ := h1.lookup keyT Try.underlying58 (zeroN w) (zd := .held (.slice none 0 0)) (zp := []) rfl (keyOf_s hs)
  refine ⟨v, hrun, ?_⟩
  unfold Rv at hv
  injection hv with hv
  injection hv with hv _
  by_cases hm : s ∈ nms M
  · obtain ⟨v', g1, g2⟩ := h4 s hm
    rw [g1] at hv
    injection hv with hv
    rw [hv]; exact g2
  · have hh : has D (kl s) = false := by rw [h3 s]; exact memB_f hm
    rw [atKey_of_not_has hh] at hv
    injection hv with hv
    rw [hv, fol_none hm]
    exact Fls.nilv
/-- v, ok := m[s]. -/
theorem Book.look2 (h : Book w ok b n M) {s : ByteArray} (hs : s.size ≤ maxLen) : ∃ v, (Instr.lookup 58 (.map (some b)) (.string s) true).run Try.prog w = .ok (.tuple #[v, .bool (memB (nms M) s)]) w ∧ Fls w ok v (fol M s) := by
  obtain ⟨D, ⟨es, clock, hb, F, hsz, hD⟩, h2, h3, h4⟩ := h
  rcases Maps.fit_look true keyT Try.underlying58 (zeroN w) hb F (keyOf_s hs) with ⟨hrun, _, hat⟩ | ⟨e0, y, _, _, hrun, hR, hat, _⟩
  · rw [← hD] at hat
    have hh : has D (kl s) = false := has_false_of_atKey hat
    rw [h3 s] at hh
    refine ⟨_, by rw [hh]; exact hrun, ?_⟩
    rw [fol_none (fun hm => by rw [memB_t hm] at hh; cases hh)]
    exact Fls.nilv
  · rw [← hD] at hat
    have hh : has D (kl s) = true := has_true_of_atKey hat
    rw [h3 s] at hh
    obtain ⟨v', g1, g2⟩ := h4 s (memB_iff.1 hh)
    refine ⟨e0.val, by rw [hh]; exact hrun, ?_⟩
    have e1 := (g1 (.held undef)).symm.trans (hat (.held undef))
    unfold Rv at hR
    injection hR with hR
    rw [← hR] at e1
    injection e1 with e1
    rw [← e1]; exact g2
end
end Go.Proofs.Ytohodhogbdcdmab
