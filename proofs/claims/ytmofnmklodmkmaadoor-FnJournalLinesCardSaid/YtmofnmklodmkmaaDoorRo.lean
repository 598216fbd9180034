/- The record of three words: the spec's. -/
import Derived.Test.YtmofnmklodmkmaaDoorRf
set_option linter.unusedVariables false
set_option linter.unusedSimpArgs false
namespace Go.Proofs.YtmofnmklodmkmaaDoor
open Go.RowKit

abbrev reV (r : Rec) : Value := rV r.1 r.2.1 r.2.2.1 r.2.2.2.1 r.2.2.2.2
/-- The five cells of a record, stored anew. -/
theorem Blk.put5 {w : World} {p : Nat} {T : TypeId} {a b d s t : Value} (h : Blk w p T #[a, b, d, s, t]) (a' b' d' s' t' : Value) :
    Blk (((((w.setCell ⟨p, 0, none⟩ a').setCell ⟨p, 1, none⟩ b').setCell ⟨p, 2, none⟩ d').setCell ⟨p, 3, none⟩ s').setCell ⟨p, 4, none⟩ t') p T #[a', b', d', s', t'] := ((((h.set_ 0 a').set_ 1 b').set_ 2 d').set_ 3 s').set_ 4 t'
theorem Blk.cells5 {w : World} {p : Nat} {T : TypeId} {a b d s t : Value} (h : Blk w p T #[a, b, d, s, t]) :
    (w.cell? ⟨p, 0, none⟩ = some a ∧ w.cell? ⟨p, 1, none⟩ = some b ∧ w.cell? ⟨p, 2, none⟩ = some d ∧ w.cell? ⟨p, 3, none⟩ = some s ∧ w.cell? ⟨p, 4, none⟩ = some t) ∧ (w.frozen? ⟨p, 0, none⟩ = false ∧ w.frozen? ⟨p, 1, none⟩ = false ∧ w.frozen? ⟨p, 2, none⟩ = false ∧ w.frozen? ⟨p, 3, none⟩ = false ∧ w.frozen? ⟨p, 4, none⟩ = false) := ⟨⟨h.cell 0, h.cell 1, h.cell 2, h.cell 3, h.cell 4⟩, h.frozen 0, h.frozen 1, h.frozen 2, h.frozen 3, h.frozen 4⟩
theorem below_put5 {B : Nat} {w w' : World} {p : Nat} (h : Below B w w') (hp : B ≤ p) (a b d s t : Value) : Below B w (((((w'.setCell ⟨p, 0, none⟩ a).setCell ⟨p, 1, none⟩ b).setCell ⟨p, 2, none⟩ d).setCell ⟨p, 3, none⟩ s).setCell ⟨p, 4, none⟩ t) := ((((h.setCell hp a).setCell hp b).setCell hp d).setCell hp s).setCell hp t

theorem tb_post : tb wPost = ⟨#[112, 111, 115, 116]⟩ := rfl
theorem tb_moved : tb wMoved = ⟨#[109, 111, 118, 101, 100]⟩ := rfl
theorem tb_follow : tb wFollow = ⟨#[102, 111, 108, 108, 111, 119]⟩ := rfl
theorem tb_unf : tb wUnf = ⟨#[117, 110, 102, 111, 108, 108, 111, 119]⟩ := rfl
theorem eq_tb (a b : Txt) : ((tb a).toList == (tb b).toList) = decide (a = b) := by
  rw [beq_str, Bool.eq_iff_iff, decide_eq_true_iff, decide_eq_true_iff]
  exact ⟨tb_inj, fun h => by rw [h]⟩
theorem ofW_1 {a b c : Txt} (h : a = wPost) : ofW a b c = (1, numL b, 0, tb c, ⟨#[]⟩) := by unfold ofW; rw [if_pos h]
theorem ofW_2 {a b c : Txt} (h1 : ¬ a = wPost) (h : a = wMoved) : ofW a b c = (2, numL b, numL c, ⟨#[]⟩, ⟨#[]⟩) := by unfold ofW; rw [if_neg h1, if_pos h]
theorem ofW_3 {a b c : Txt} (h1 : ¬ a = wPost) (h2 : ¬ a = wMoved) (h : a = wFollow) : ofW a b c = (3, 0, 0, tb b, tb c) := by unfold ofW; rw [if_neg h1, if_neg h2, if_pos h]
theorem ofW_4 {a b c : Txt} (h1 : ¬ a = wPost) (h2 : ¬ a = wMoved) (h3 : ¬ a = wFollow) (h : a = wUnf) : ofW a b c = (4, 0, 0, tb b, tb c) := by unfold ofW; rw [if_neg h1, if_neg h2, if_neg h3, if_pos h]
theorem ofW_5 {a b c : Txt} (h1 : ¬ a = wPost) (h2 : ¬ a = wMoved) (h3 : ¬ a = wFollow) (h4 : ¬ a = wUnf) : ofW a b c = re0 := by unfold ofW; rw [if_neg h1, if_neg h2, if_neg h3, if_neg h4]
theorem eq_k (a : ByteArray) (l : Txt) : (a.toList == l) = decide (a.data.toList = l) := by
  rw [Lib.toList_data, Bool.eq_iff_iff, beq_iff_eq, decide_eq_true_iff]

end Go.Proofs.YtmofnmklodmkmaaDoor
