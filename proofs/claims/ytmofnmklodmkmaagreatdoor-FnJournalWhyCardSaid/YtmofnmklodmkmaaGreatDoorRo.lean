/- The record of three words: the spec's. -/
import Derived.Test.YtmofnmklodmkmaaGreatDoorRf
set_option linter.unusedVariables false
set_option linter.unusedSimpArgs false
namespace Go.Proofs.YtmofnmklodmkmaaGreatDoor
open Go.RowKit

abbrev reV (r : Rec) : Value := rV r.1 r.2.1 r.2.2.1 r.2.2.2.1 r.2.2.2.2
/-- The five cells of a record, stored anew. -/
theorem Blk.put5 {w : World} {p : Nat} {T : TypeId} {a b d s t : Value} (h : Blk w p T #[a, b, d, s, t]) (a' b' d' s' t' : Value) :
    Blk (((((w.setCell ⟨p, 0, none⟩ a').setCell ⟨p, 1, none⟩ b').setCell ⟨p, 2, none⟩ d').setCell ⟨p, 3, none⟩ s').setCell ⟨p, 4, none⟩ t') p T #[a', b', d', s', t'] := ((((h.set_ 0 a').set_ 1 b').set_ 2 d').set_ 3 s').set_ 4 t'
theorem Blk.cells5 {w : World} {p : Nat} {T : TypeId} {a b d s t : Value} (h : Blk w p T #[a, b, d, s, t]) :
    (w.cell? ⟨p, 0, none⟩ = some a ∧ w.cell? ⟨p, 1, none⟩ = some b ∧ w.cell? ⟨p, 2, none⟩ = some d ∧ w.cell? ⟨p, 3, none⟩ = some s ∧ w.cell? ⟨p, 4, none⟩ = some t) ∧ (w.frozen? ⟨p, 0, none⟩ = false ∧ w.frozen? ⟨p, 1, none⟩ = false ∧ w.frozen? ⟨p, 2, none⟩ = false ∧ w.frozen? ⟨p, 3, none⟩ = false ∧ w.frozen? ⟨p, 4, none⟩ = false) := ⟨⟨h.cell 0, h.cell 1, h.cell 2, h.cell 3, h.cell 4⟩, h.frozen 0, h.frozen 1, h.frozen 2, h.frozen 3, h.frozen 4⟩
theorem below_put5 {B : Nat} {w w' : World} {p : Nat} (h : Below B w w') (hp : B ≤ p) (a b d s t : Value) : Below B w (((((w'.setCell ⟨p, 0, none⟩ a).setCell ⟨p, 1, none⟩ b).setCell ⟨p, 2, none⟩ d).setCell ⟨p, 3, none⟩ s).setCell ⟨p, 4, none⟩ t) := ((((h.setCell hp a).setCell hp b).setCell hp d).setCell hp s).setCell hp t

theorem tb_post : tb wPost = ⟨#[112, 111, 115, 116]⟩ := rfl
theorem tb_moved : tb wMoved = ⟨#[109, 111, 118, 101, 100]⟩ := rfl
theorem tb_follow : tb wFollow = ⟨#[102, 111, 108, 108, 111, 119]⟩ := rfl
theorem tb_unf : tb wUnf = ⟨#[117, 110, 102, 111, 108, 108, 111, 119]⟩ := rfl
theorem eq_tb (a b : Txt) : ((tb a).toList == (tb b).toList) = decide (a = b) := by
  rw [beq_str, Bool.eq_iff_iff, decide_eq_true_iff, decide_eq_true_iff]
  exact ⟨tb_inj, fun h => by rw [h]⟩
theorem ofW_1 {a b c : Txt} (h : a = wPost) : ofW a b c = (1, numL b, 0, tb c, ⟨#[]⟩) := by unfold ofW; rw [if_pos h]
theorem ofW_2 {a b c : Txt} (h1 : ¬ a = wPost) (h : a = wMoved) : ofW a b c = (2, numL b, numL c, ⟨#[]⟩, ⟨#[]⟩) := by unfold ofW; rw [if_neg h1, if_pos h]
theorem ofW_3 {a b c : Txt} (h1 : ¬ a = wPost) (h2 : ¬ a = wMoved) (h : a = wFollow) : ofW a b c = (3, 0, 0, tb b, tb c) := by unfold ofW; rw [if_neg h1, if_neg h2, if_pos h]
theorem ofW_4 {a b c : Txt} (h1 : ¬ a = wPost) (h2 : ¬ a = wMoved) (h3 : ¬ a = wFollow) (h : a = wUnf) : ofW a b c = (4, 0, 0, tb b, tb c) := by unfold ofW; rw [if_neg h1, if_neg h2, if_neg h3, if_pos h]
theorem ofW_5 {a b c : Txt} (h1 : ¬ a = wPost) (h2 : ¬ a = wMoved) (h3 : ¬ a = wFollow) (h4 : ¬ a = wUnf) : ofW a b c = re0 := by unfold ofW; rw [if_neg h1, if_neg h2, if_neg h3, if_neg h4]
theorem eq_k (a : ByteArray) (l : Txt) : (a.toList == l) = decide (a.data.toList = l) := by
  rw [Lib.toList_data, Bool.eq_iff_iff, beq_iff_eq, decide_eq_true_iff]

set_option maxHeartbeats 1000000 in
set_option maxRecDepth 100000 in
theorem s_of (A : Option Addr) (n c : Nat) (a b x : ByteArray) (w : World) (hL : Strs w w.heap.size A n [a, b, x]) (hsb : b.size ≤ maxLen) (hsx : x.size ≤ maxLen) :
    Calls Tryz.prog 59 #[.slice A n c] w fun e w' => e = .returned (reV (ofW a.data.toList b.data.toList x.data.toList)) ∧ Below w.heap.size w w' := by
  obtain rfl : 3 = n := hL.1
  obtain ⟨g, off, rfl, hg, hc⟩ := hL.2 (by omega)
  have hc0 := hc 0 _ rfl
  have hc1 := hc 1 _ rfl
  have hc2 := hc 2 _ rfl
  rw [Nat.add_zero] at hc0
  have HNb := fun W => s_num b W hsb
  have HNx := fun W => s_num x W hsx
  obtain ⟨nb, hnb⟩ : ∃ v, numL b.data.toList = v := ⟨_, rfl⟩
  obtain ⟨nx, hnx⟩ : ∃ v, numL x.data.toList = v := ⟨_, rfl⟩
  rw [hnb] at HNb
  rw [hnx] at HNx
  have HNB := hide HNb
  have HNX := hide HNx
  have Hnb := hide hnb
  have Hnx := hide hnx
  have HB := hide (Blk.new w 28 #[.int .i64 0, .int .i64 0, .int .i64 0, .string ⟨#[]⟩, .string ⟨#[]⟩])
  have Hb := hide ((Below.refl w.heap.size w).alloc (Nat.le_refl _) (.cells #[.int .i64 0, .int .i64 0, .int .i64 0, .string ⟨#[]⟩, .string ⟨#[]⟩] 28))
  have k0 := (Hb.out.cell (p := ⟨g, off, none⟩) hg).trans hc0
  have k1 := (Hb.out.cell (p := ⟨g, off + 1, none⟩) hg).trans hc1
  have k2 := (Hb.out.cell (p := ⟨g, off + 2, none⟩) hg).trans hc2
  obtain ⟨⟨z0, z1, z2, z3, z4⟩, f0, f1, f2, f3, f4⟩ := HB.out.cells5
  clear hL hc hsb hsx hnb hnx HNb HNx hc0 hc1 hc2
  by_cases h1 : a.data.toList = wPost
  · have H : Hid (reV (ofW a.data.toList b.data.toList x.data.toList) = rV 1 nb 0 x ⟨#[]⟩) := by
      show _ = _
      rw [ofW_1 h1]
      show rV 1 (numL b.data.toList) 0 (tb x.data.toList) ⟨#[]⟩ = _
      rw [tb_list, Hnb.out]
    have q1 : (a.toList == [112, 111, 115, 116]) = true := (eq_k a wPost).trans (by simpa using h1)
    clear h1
    go_enter Tryz.func59, Tryz.ntmps59
    go_wp2_with fail
    go_region_with (go_at_call 58; refine (HNB.out _).mono ?_; rintro e w' ⟨rfl, rfl⟩)
    all_goals
      go_wp2_with fail
      exact bodyPost_ret (v := rV 1 nb 0 x ⟨#[]⟩) (by simp [results, Tryz.results59, go_sem]) rfl ⟨congrArg _ H.out.symm, ((Below.refl _ w).alloc (Nat.le_refl _) _).drew⟩
  have q1 : (a.toList == [112, 111, 115, 116]) = false := (eq_k a wPost).trans (by simpa using h1)
  by_cases h2 : a.data.toList = wMoved
  · have H : Hid (reV (ofW a.data.toList b.data.toList x.data.toList) = rV 2 nb nx ⟨#[]⟩ ⟨#[]⟩) := by
      show _ = _
      rw [ofW_2 h1 h2]
      show rV 2 (numL b.data.toList) (numL x.data.toList) ⟨#[]⟩ ⟨#[]⟩ = _
      rw [Hnb.out, Hnx.out]
    have q2 : (a.toList == [109, 111, 118, 101, 100]) = true := (eq_k a wMoved).trans (by simpa using h2)
    clear h1 h2
    go_enter Tryz.func59, Tryz.ntmps59
    go_wp2_with fail
    go_region_with (first
      | (go_at_call 58; with_reducible refine (HNB.out _).mono ?_; rintro e w' ⟨rfl, rfl⟩)
      | (go_at_call 58; with_reducible refine (HNX.out _).mono ?_; rintro e w' ⟨rfl, rfl⟩))
    all_goals
      go_wp2_with fail
      exact bodyPost_ret (v := rV 2 nb nx ⟨#[]⟩ ⟨#[]⟩) (by simp [results, Tryz.results59, go_sem]) rfl ⟨congrArg _ H.out.symm, ((Below.refl _ w).alloc (Nat.le_refl _) _).drew⟩
  have q2 : (a.toList == [109, 111, 118, 101, 100]) = false := (eq_k a wMoved).trans (by simpa using h2)
  by_cases h3 : a.data.toList = wFollow
  · have H : Hid (reV (ofW a.data.toList b.data.toList x.data.toList) = rV 3 0 0 b x) := by
      show _ = _
      rw [ofW_3 h1 h2 h3]
      show rV 3 0 0 (tb b.data.toList) (tb x.data.toList) = _
      rw [tb_list, tb_list]
    have q3 : (a.toList == [102, 111, 108, 108, 111, 119]) = true := (eq_k a wFollow).trans (by simpa using h3)
    clear h1 h2 h3
    go_enter Tryz.func59, Tryz.ntmps59
    go_wp2_with fail
    go_region
    all_goals
      go_wp2_with fail
      exact bodyPost_ret (v := rV 3 0 0 b x) (by simp [results, Tryz.results59, go_sem]) rfl ⟨congrArg _ H.out.symm, ((Below.refl _ w).alloc (Nat.le_refl _) _).drew⟩
  have q3 : (a.toList == [102, 111, 108, 108, 111, 119]) = false := (eq_k a wFollow).trans (by simpa using h3)
  by_cases h4 : a.data.toList = wUnf
  · have H : Hid (reV (ofW a.data.toList b.data.toList x.data.toList) = rV 4 0 0 b x) := by
      show _ = _
      rw [ofW_4 h1 h2 h3 h4]
      show rV 4 0 0 (tb b.data.toList) (tb x.data.toList) = _
      rw [tb_list, tb_list]
    have q4 : (a.toList == [117, 110, 102, 111, 108, 108, 111, 119]) = true := (eq_k a wUnf).trans (by simpa using h4)
    clear h1 h2 h3 h4
    go_enter Tryz.func59, Tryz.ntmps59
    go_wp2_with fail
    go_region
    all_goals
      go_wp2_with fail
      exact bodyPost_ret (v := rV 4 0 0 b x) (by simp [results, Tryz.results59, go_sem]) rfl ⟨congrArg _ H.out.symm, ((Below.refl _ w).alloc (Nat.le_refl _) _).drew⟩
  · have H : Hid (reV (ofW a.data.toList b.data.toList x.data.toList) = rV 0 0 0 ⟨#[]⟩ ⟨#[]⟩) := by
      show _ = _
      rw [ofW_5 h1 h2 h3 h4]
      rfl
    have q4 : (a.toList == [117, 110, 102, 111, 108, 108, 111, 119]) = false := (eq_k a wUnf).trans (by simpa using h4)
    clear h1 h2 h3 h4
    go_enter Tryz.func59, Tryz.ntmps59
    go_wp2_with fail
    exact bodyPost_ret (v := rV 0 0 0 ⟨#[]⟩ ⟨#[]⟩) (by simp [results, Tryz.results59, go_sem]) rfl ⟨congrArg _ H.out.symm, (Below.refl _ w).alloc (Nat.le_refl _) _⟩
end Go.Proofs.YtmofnmklodmkmaaGreatDoor
