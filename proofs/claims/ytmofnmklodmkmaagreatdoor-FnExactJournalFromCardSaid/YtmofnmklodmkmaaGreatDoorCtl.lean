/- strings.Cut at a newline: the first line, and what is behind it. -/
import Derived.Test.YtmofnmklodmkmaaGreatDoorJe
import Derived.Test.YtmofnmklodmkmaaGreatDoorLbs
import Derived.Lib.CutLaws
set_option linter.unusedVariables false
set_option linter.unusedSimpArgs false
namespace Go.Proofs.YtmofnmklodmkmaaGreatDoor
open Go.RowKit
theorem index_nl (s : Txt) : Lib.index s [10] = match nl s with | none => -1 | some (l, _) => (l.length : Int) := by
  induction s with
  | nil => rfl
  | cons c s ih =>
    unfold Lib.index nl
    by_cases h : c = 10
    · subst h
      simp
    · rw [if_neg (by simp [List.isPrefixOf]; exact fun e => h e.symm), if_neg h, ih]
      cases hn : nl s with
      | none => simp
      | some x =>
        have h0 : ¬ (((x.1.length : Nat) : Int) = -1) := by omega
        simp [h0]
theorem scut_none {s : Txt} (h : nl s = none) : Lib.cut s [10] = (s, [], false) := by
  have e := index_nl s
  rw [h] at e
  unfold Lib.cut
  rw [e, if_neg (by decide)]
theorem scut_some {s l r : Txt} (h : nl s = some (l, r)) : Lib.cut s [10] = (l, r, true) := by
  have e := index_nl s
  rw [h] at e
  obtain ⟨e1, _⟩ := nl_eq h
  unfold Lib.cut
  rw [e, if_pos (by show (0 : Int) ≤ ((l.length : Nat) : Int); omega)]
  show (List.take (Int.toNat ((l.length : Nat) : Int)) s, List.drop (Int.toNat ((l.length : Nat) : Int) + 1) s, true) = _
  rw [Int.toNat_natCast, e1]
  simp
/-- What strings.Cut at a newline gives. -/
def CEnd (s : ByteArray) (e : Ending) : Prop := (e = .returned (.tuple #[.string s, .string ⟨#[]⟩, .bool false]) ∧ (10 : UInt8) ∉ s.data.toList) ∨ ∃ l rest, e = .returned (.tuple #[.string (tb l), .string (tb rest), .bool true]) ∧ s.data.toList = l ++ 10 :: rest ∧ (10 : UInt8) ∉ l
theorem cut_call (s : ByteArray) (hs : s.size ≤ 1048576) (w : World) (hV : Vw w) :
    Calls Tryz.prog 51 #[.string s, .string ⟨#[10]⟩] w fun e w' => CEnd s e ∧ ∃ n, w' = w.drewN n := by
  obtain ⟨m, hm⟩ := hV.len
  refine (Any.strings_Cut scuL s ⟨#[10]⟩ m w (by omega) hm).mono ?_
  rintro e w' ⟨h1, h2⟩
  refine ⟨?_, h2⟩
  have e10 : (⟨#[10]⟩ : ByteArray).data.toList = [10] := rfl
  rw [e10] at h1
  cases hn : nl s.data.toList with
  | none =>
    rw [scut_none hn] at h1
    refine .inl ⟨?_, nl_not hn⟩
    have h : (⟨s.data.toList.toArray⟩ : ByteArray) = s := tb_list s
    exact h1.trans (congrArg (fun z => Ending.returned (.tuple #[.string z, .string ⟨#[]⟩, .bool false])) h)
  | some x =>
    obtain ⟨l, r⟩ := x
    rw [scut_some hn] at h1
    obtain ⟨e1, e2⟩ := nl_eq hn
    exact .inr ⟨l, r, h1, e1, e2⟩
end Go.Proofs.YtmofnmklodmkmaaGreatDoor
