/- A line, read: the spec's. -/
import Derived.Test.YtmofnmklodmkmaaDoorRo
set_option linter.unusedVariables false
set_option linter.unusedSimpArgs false
namespace Go.Proofs.YtmofnmklodmkmaaDoor
open Go.RowKit

theorem cut_len {l : Txt} : ∀ {o : List Txt} {c : Txt} {M : Nat}, (∀ x ∈ o, x.length ≤ M) → c.length ≤ M → (∀ x ∈ (l.foldl cstep (o, c)).1, x.length ≤ M + l.length) ∧ (l.foldl cstep (o, c)).2.length ≤ M + l.length := by
  induction l with
  | nil => exact fun ho hc => ⟨ho, hc⟩
  | cons a l ih =>
    intro o c M ho hc
    rw [List.foldl_cons, List.length_cons, show M + (l.length + 1) = M + 1 + l.length by omega]
    unfold cstep
    split
    · refine ih (M := M + 1) ?_ (by simp)
      intro x hx
      rw [List.mem_append] at hx
      rcases hx with hx | hx
      · have := ho x hx; omega
      · rw [List.mem_singleton.1 hx]; simp only; omega
    · exact ih (M := M + 1) (fun x hx => by have := ho x hx; omega) (by simp; omega)
theorem cutL_len {l x : Txt} (h : x ∈ cutL l) : x.length ≤ l.length := by
  have := @cut_len l [] [] 0 (by simp) (by simp)
  unfold cutL at h
  rw [List.mem_append] at h
  rcases h with h | h
  · have := this.1 x h; omega
  · rw [List.mem_singleton.1 h]; have := this.2; unfold cutF; omega
theorem tb_size (l : Txt) : (tb l).size = l.length := by unfold tb ByteArray.size; simp
/-- What a line gives. -/
def fromV : Option (Int × Rec) → Value
  | some (p, r) => .tuple #[.int .i64 p, reV r, .bool true]
  | none => .tuple #[.int .i64 0, rV 0 0 0 ⟨#[]⟩ ⟨#[]⟩, .bool false]
theorem fromL_5 {s : Txt} (h : (cutL s).length ≠ 5) : fromL s = none := by
  unfold fromL
  have : of5 (cutL s) = none := by
    match hc : cutL s, h with
    | [a, b, c, d, e], h => exact absurd rfl h
    | [], _ => rfl
    | [_], _ => rfl
    | [_, _], _ => rfl
    | [_, _, _], _ => rfl
    | [_, _, _, _], _ => rfl
    | _ :: _ :: _ :: _ :: _ :: _ :: _, _ => rfl
  rw [this]; rfl
theorem len5 {s : Txt} (h : (cutL s).length = 5) : ∃ a b c d e, cutL s = [a, b, c, d, e] := by
  match hc : cutL s, h with
  | [a, b, c, d, e], _ => exact ⟨a, b, c, d, e, rfl⟩
theorem cut_some {s a b c d e : Txt} (h : cutL s = [a, b, c, d, e]) : s ≠ [] := by rintro rfl; cases h
theorem fromL_t {s a b c d e : Txt} (h : cutL s = [a, b, c, d, e]) (h2 : textL (numL a) (ofW b c d) = s) : fromL s = some (numL a, ofW b c d) := by
  unfold fromL
  rw [h]
  show (if s = [] ∨ textL (numL a) (ofW b c d) ≠ s then none else some (numL a, ofW b c d)) = _
  rw [if_neg]
  rintro (h3 | h3)
  · exact cut_some h h3
  · exact h3 h2
theorem fromL_f {s a b c d e : Txt} (h : cutL s = [a, b, c, d, e]) (h2 : ¬ textL (numL a) (ofW b c d) = s) : fromL s = none := by
  unfold fromL
  rw [h]
  show (if s = [] ∨ textL (numL a) (ofW b c d) ≠ s then none else some (numL a, ofW b c d)) = _
  rw [if_pos (.inr h2)]
theorem ofW_size {a b c : Txt} {M : Nat} (hb : b.length ≤ M) (hc : c.length ≤ M) : (ofW a b c).2.2.2.1.size ≤ M ∧ (ofW a b c).2.2.2.2.size ≤ M := by
  have hb' := tb_size b
  have hc' := tb_size c
  have h0 : (ByteArray.mk #[]).size = 0 := rfl
  unfold ofW
  split
  · exact ⟨by show (tb c).size ≤ M; omega, by show (ByteArray.mk #[]).size ≤ M; omega⟩
  split
  · exact ⟨by show (ByteArray.mk #[]).size ≤ M; omega, by show (ByteArray.mk #[]).size ≤ M; omega⟩
  split
  · exact ⟨by show (tb b).size ≤ M; omega, by show (tb c).size ≤ M; omega⟩
  split
  · exact ⟨by show (tb b).size ≤ M; omega, by show (tb c).size ≤ M; omega⟩
  · exact ⟨by show (ByteArray.mk #[]).size ≤ M; omega, by show (ByteArray.mk #[]).size ≤ M; omega⟩

end Go.Proofs.YtmofnmklodmkmaaDoor
