/- Decimals, numbers and words as the library has them: plain mathematics. -/
import Derived.Test.YtmofnmklodmkmaaGreatDoorRg
import Derived.Lib.AtoiTie
import Derived.Lib.ItoaNum
import Derived.Lib.SplitLaws
set_option linter.unusedVariables false
set_option linter.unusedSimpArgs false
namespace Go.Proofs.YtmofnmklodmkmaaGreatDoor
open Go.RowKit

/-! The decimals of a number. -/
theorem dg_lib (n : Nat) : UInt8.ofNat (48 + n) = dg n := by unfold dg; rw [UInt8.ofNat_add]; rfl
theorem dec_lib {n : Nat} (h : n < 1000) : Lib.decDigits n = decL n := by
  unfold decL
  rw [Lib.decDigits]
  split
  · rw [dg_lib]
  · rw [Lib.decDigits]
    split
    · rw [if_pos (by omega), dg_lib, dg_lib]; rfl
    · rw [Lib.decDigits, dif_pos (by omega), if_neg (by omega), dg_lib, dg_lib, dg_lib, show n / 10 / 10 = n / 100 by omega]; rfl
theorem itoa_lib {n : Nat} (h : n < 1000) : Lib.itoa (n : Int) = decL n := by
  unfold Lib.itoa
  rw [if_neg (by omega), Int.toNat_natCast, dec_lib h]
/-! A number, read. -/
theorem atoi_all : ∀ n : Fin 1000, Lib.atoi (decL n.val) = some (n.val : Int) := by decide +kernel
theorem atoi_dec {n : Nat} (h : n < 1000) : Lib.atoiAll (decL n) = .ok (n : Int) := by
  rw [Lib.atoiAll_short _ (by have := (@decL_len n).2; omega), atoi_all ⟨n, h⟩]
  rfl
/-! A text, cut. -/
theorem cut_more {l : Txt} : ∀ {o : List Txt} {c : Txt}, l.foldl cstep (o, c) = (o ++ (l.foldl cstep ([], c)).1, (l.foldl cstep ([], c)).2) := by
  induction l with
  | nil => intro o c; simp
  | cons a l ih =>
    intro o c
    rw [List.foldl_cons, List.foldl_cons]
    by_cases ha : a = 32
    · have e : ∀ (o : List Txt) (c : Txt), cstep (o, c) a = (o ++ [c], []) := fun o c => by unfold cstep; rw [if_pos ha]
      rw [e, e, ih, ih (o := [] ++ [c])]; simp
    · have e : ∀ (o : List Txt) (c : Txt), cstep (o, c) a = (o, c ++ [a]) := fun o c => by unfold cstep; rw [if_neg ha]
      rw [e, e, ih]
theorem cut_plain {a : Txt} : ∀ {o : List Txt} {c : Txt}, (32 : UInt8) ∉ a → a.foldl cstep (o, c) = (o, c ++ a) := by
  induction a with
  | nil => intro o c _; simp
  | cons x a ih =>
    intro o c h
    have hx : x ≠ 32 := fun e => h (by rw [e]; exact List.mem_cons_self ..)
    rw [List.foldl_cons, show cstep (o, c) x = (o, c ++ [x]) by unfold cstep; rw [if_neg hx], ih fun hm => h (List.mem_cons_of_mem _ hm)]
    simp
theorem cutL_none {a : Txt} (h : (32 : UInt8) ∉ a) : cutL a = [a] := by unfold cutL cutF; rw [cut_plain h]; rfl
theorem cutL_first {a b : Txt} (h : (32 : UInt8) ∉ a) : cutL (a ++ 32 :: b) = a :: cutL b := by
  unfold cutL cutF
  rw [List.foldl_append, cut_plain h, List.foldl_cons, show cstep ([], [] ++ a) 32 = ([a], []) from rfl, cut_more]
  simp
theorem index_none' {a : Txt} (h : (32 : UInt8) ∉ a) : Lib.index a [32] = -1 := by
  induction a with
  | nil => rfl
  | cons x a ih =>
    have hx : x ≠ 32 := fun e => h (by rw [e]; exact List.mem_cons_self ..)
    have hp : ([32] : List UInt8).isPrefixOf (x :: a) = false := by simp [List.isPrefixOf, Ne.symm hx]
    rw [Lib.index, hp, ih fun hm => h (List.mem_cons_of_mem _ hm)]
    rfl
theorem index_first' {a b : Txt} (h : (32 : UInt8) ∉ a) : Lib.index (a ++ 32 :: b) [32] = (a.length : Nat) := by
  induction a with
  | nil => rw [List.nil_append, Lib.index]; simp [List.isPrefixOf]
  | cons x a ih =>
    have hx : x ≠ 32 := fun e => h (by rw [e]; exact List.mem_cons_self ..)
    have hp : ([32] : List UInt8).isPrefixOf (x :: (a ++ 32 :: b)) = false := by simp [List.isPrefixOf, Ne.symm hx]
    rw [List.cons_append, Lib.index, hp, ih fun hm => h (List.mem_cons_of_mem _ hm)]
    have : ¬ (((a.length : Nat) : Int) == -1) = true := fun e => by have := beq_iff_eq.1 e; omega
    simp only [Bool.false_eq_true, if_false, if_neg this, List.length_cons]
    omega
theorem split_first : ∀ l : Txt, (32 : UInt8) ∉ l ∨ ∃ a b, l = a ++ 32 :: b ∧ (32 : UInt8) ∉ a
  | [] => .inl (by simp)
  | x :: l => by
    by_cases hx : x = 32
    · exact .inr ⟨[], l, by rw [hx]; rfl, by simp⟩
    · rcases split_first l with h | ⟨a, b, rfl, h⟩
      · exact .inl fun hm => by rcases List.mem_cons.1 hm with e | e; exact hx e.symm; exact h e
      · exact .inr ⟨x :: a, b, rfl, fun hm => by rcases List.mem_cons.1 hm with e | e; exact hx e.symm; exact h e⟩
theorem splitK_cut : ∀ (k : Nat) (l : Txt), l.count 32 = k → Lib.splitK [32] 0 k l = cutL l
  | 0, l, h => by
    have hm : (32 : UInt8) ∉ l := List.count_eq_zero.1 h
    rw [cutL_none hm]; rfl
  | k + 1, l, h => by
    rcases split_first l with hm | ⟨a, b, rfl, hm⟩
    · rw [List.count_eq_zero.2 hm] at h; cases h
    · have hb : b.count 32 = k := by rw [List.count_append, List.count_cons, List.count_eq_zero.2 hm] at h; simp at h; exact h
      have hi := index_first' (b := b) hm
      have hn : ¬ (Lib.index (a ++ 32 :: b) [32] == -1) = true := fun e => by have := beq_iff_eq.1 e; omega
      rw [Lib.splitK, if_neg hn, hi, cutL_first hm, ← splitK_cut k b hb]
      simp
theorem sp_data : (ByteArray.mk #[32]).data.toList = [32] := rfl
theorem countB_32 (s : ByteArray) : Lib.countB s ⟨#[32]⟩ = s.data.toList.count 32 := by unfold Lib.countB; rw [sp_data, Lib.count_one]
theorem splitB_cut (s : ByteArray) : Lib.splitB ⟨#[32]⟩ 0 (Lib.countB s ⟨#[32]⟩) s = (cutL s.data.toList).map tb := by
  have h := Lib.splitB_data ⟨#[32]⟩ 0 (Lib.countB s ⟨#[32]⟩) s
  rw [sp_data, countB_32, splitK_cut _ _ rfl] at h
  rw [countB_32, ← h, List.map_map]
  conv => lhs; rw [← List.map_id (Lib.splitB ⟨#[32]⟩ 0 (s.data.toList.count 32) s)]
  apply List.map_congr_left
  intro x _
  exact (tb_list x).symm
theorem cut_count (s : ByteArray) : (cutL s.data.toList).length = Lib.countB s ⟨#[32]⟩ + 1 := by
  have h := congrArg List.length (splitB_cut s)
  rw [Lib.splitB_all ⟨#[32]⟩ (by decide) 0 _ s rfl, List.length_map] at h
  exact h.symm
/-! A line whose words are read otherwise, but rightly where they are decimals. -/
/-- x is what the word s says, if s is the decimals of a number. -/
def NumOf (s : Txt) (x : Int) : Prop := ∀ n : Nat, n < 1000 → s = decL n → x = (n : Int)
def wnum (l : Txt) : Int := match Lib.atoiAll l with | .ok v => v | _ => 0
theorem wnum_ok (l : Txt) : NumOf l (wnum l) := fun n hn e => by
  subst e
  unfold wnum
  rw [atoi_dec hn]
/-- The record of three words with numbers of one's own reading. -/
def ofN (a b c : Txt) (x y : Int) : Rec := if a = wPost then (1, x, 0, tb c, ⟨#[]⟩) else if a = wMoved then (2, x, y, ⟨#[]⟩, ⟨#[]⟩) else if a = wFollow then (3, 0, 0, tb b, tb c) else (4, 0, 0, tb b, tb c)
def kw (a : Txt) : Prop := a = wPost ∨ a = wMoved ∨ a = wFollow ∨ a = wUnf
theorem wds_kw {r : Rec} (h : reB r = true) : kw (wds r).1 := by
  rcases re_ways h with ⟨i, s, rfl, hi, hs⟩ | ⟨i, d, rfl, hi, hd⟩ | ⟨s, t, rfl | rfl, hs, ht, _⟩
  · exact .inl rfl
  · exact .inr (.inl rfl)
  · exact .inr (.inr (.inl rfl))
  · exact .inr (.inr (.inr rfl))
theorem ofN_wds {r : Rec} {x y : Int} (h : reB r = true) (hx : NumOf (wds r).2.1 x) (hy : NumOf (wds r).2.2 y) : ofN (wds r).1 (wds r).2.1 (wds r).2.2 x y = r := by
  rcases re_ways h with ⟨i, s, rfl, hi, hs⟩ | ⟨i, d, rfl, hi, hd⟩ | ⟨s, t, rfl | rfl, hs, ht, _⟩
  · have := inR_iff.1 hi
    have e := hx i.toNat (by omega) rfl
    show ((1 : Int), x, (0 : Int), tb s.data.toList, _) = _
    rw [tb_list, e, show ((i.toNat : Nat) : Int) = i by omega]
  · have := inR_iff.1 hi
    have := inT_iff.1 hd
    have e := hx i.toNat (by omega) rfl
    have e2 := hy d.toNat (by omega) rfl
    show ((2 : Int), x, y, _, _) = _
    rw [e, e2, show ((i.toNat : Nat) : Int) = i by omega, show ((d.toNat : Nat) : Int) = d by omega]
  · show ((3 : Int), (0 : Int), (0 : Int), tb s.data.toList, tb t.data.toList) = _
    rw [tb_list, tb_list]
  · show ((4 : Int), (0 : Int), (0 : Int), tb s.data.toList, tb t.data.toList) = _
    rw [tb_list, tb_list]
theorem from_cut {s : Txt} {p : Int} {r : Rec} (h : fromL s = some (p, r)) : cutL s = [decL p.toNat, (wds r).1, (wds r).2.1, (wds r).2.2, decL (chk (join4 p.toNat r))] ∧ reB r = true ∧ inP p = true ∧ textL p r = s := by
  obtain ⟨h1, h2⟩ := fromL_some h
  have h3 : textL p r ≠ [] := by rw [h2]; exact h1
  obtain ⟨h4, h5, _⟩ := textL_ne h3
  have h6 := textL_cut h3
  rw [h2] at h6
  exact ⟨h6, h5, h4, h2⟩
/-- No word of a kind: no line. -/
theorem from_kw {s a b c d e : Txt} (hc : cutL s = [a, b, c, d, e]) (h : ¬ kw b) : fromL s = none := by
  cases hf : fromL s with
  | none => rfl
  | some y =>
    obtain ⟨h1, h2, _⟩ := from_cut (p := y.1) (r := y.2) hf
    rw [hc] at h1
    injection h1 with _ h1
    injection h1 with h1 _
    exact absurd (by rw [h1]; exact wds_kw h2) h
/-- The text of what was read is another one: no line. -/
theorem from_other {s a b c d e : Txt} {p x y : Int} (hc : cutL s = [a, b, c, d, e]) (hp : NumOf a p) (hx : NumOf c x) (hy : NumOf d y) (h : textL p (ofN b c d x y) ≠ s) : fromL s = none := by
  cases hf : fromL s with
  | none => rfl
  | some z =>
    obtain ⟨h1, h2, h3, h4⟩ := from_cut (p := z.1) (r := z.2) hf
    rw [hc] at h1
    injection h1 with e1 h1
    injection h1 with e2 h1
    injection h1 with e3 h1
    injection h1 with e4 h1
    have hz := inP_iff.1 h3
    have ep := hp z.1.toNat (by omega) e1
    subst e2 e3 e4
    rw [ofN_wds h2 hx hy, ep, show ((z.1.toNat : Nat) : Int) = z.1 by omega] at h
    exact absurd h4 h
/-- It is the same one: the line. -/
theorem from_same {s a b c d e : Txt} {p x y : Int} (hc : cutL s = [a, b, c, d, e]) (h : textL p (ofN b c d x y) = s) : fromL s = some (p, ofN b c d x y) := by
  have hne : textL p (ofN b c d x y) ≠ [] := by rw [h]; exact cut_some hc
  have := fromL_text hne
  rw [h] at this
  exact this
theorem ofN_size {a b c : Txt} {x y : Int} {M : Nat} (hb : b.length ≤ M) (hc : c.length ≤ M) : (ofN a b c x y).2.2.2.1.size ≤ M ∧ (ofN a b c x y).2.2.2.2.size ≤ M := by
  have hb' := tb_size b
  have hc' := tb_size c
  have h0 : (ByteArray.mk #[]).size = 0 := rfl
  unfold ofN
  split
  · exact ⟨by show (tb c).size ≤ M; omega, by show (ByteArray.mk #[]).size ≤ M; omega⟩
  split
  · exact ⟨by show (ByteArray.mk #[]).size ≤ M; omega, by show (ByteArray.mk #[]).size ≤ M; omega⟩
  split
  · exact ⟨by show (tb b).size ≤ M; omega, by show (tb c).size ≤ M; omega⟩
  · exact ⟨by show (tb b).size ≤ M; omega, by show (tb c).size ≤ M; omega⟩
end Go.Proofs.YtmofnmklodmkmaaGreatDoor
