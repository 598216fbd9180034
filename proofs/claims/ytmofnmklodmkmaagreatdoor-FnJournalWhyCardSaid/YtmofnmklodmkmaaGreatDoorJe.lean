/- The end of a line: the spec's. -/
import Derived.Test.YtmofnmklodmkmaaGreatDoorRf
import Derived.Test.YtmofnmklodmkmaaGreatDoorJnl
set_option linter.unusedVariables false
set_option linter.unusedSimpArgs false
namespace Go.Proofs.YtmofnmklodmkmaaGreatDoor
open Go.RowKit

/-- Where a line ends, or that there is none. -/
def LEnd (s : ByteArray) (a : Nat) (e : Ending) : Prop := (e = .returned (.int .i64 (-1)) ∧ (10 : UInt8) ∉ s.data.toList.drop a) ∨ ∃ l rest, e = .returned (.int .i64 ((a + l.length : Nat) : Int)) ∧ s.data.toList.drop a = l ++ 10 :: rest ∧ (10 : UInt8) ∉ l

set_option maxHeartbeats 1000000 in
set_option maxRecDepth 100000 in
theorem s_end (s : ByteArray) (a : Nat) (w : World) (hs : s.size ≤ maxLen) (ha : a ≤ s.size) :
    Calls Tryz.prog 34 #[.string s, .int .i64 a] w fun e w' => LEnd s a e ∧ w = w' := by
  unfold maxLen at hs
  go_enter Tryz.func34, Tryz.ntmps34
  go_wp2_with fail
  go_loop [5] (fun i => ∃ k : Nat, a ≤ k ∧ k ≤ s.size ∧ i = .int .i64 k ∧ Hid ((10 : UInt8) ∉ (s.data.toList.take k).drop a)) (fun i => s.size - (intOf i).toNat)
  case atStart => exact ⟨a, Nat.le_refl _, ha, rfl, by show _ ∉ _; rw [List.drop_of_length_le (by simp; omega)]; simp⟩
  case round =>
    obtain ⟨k, hak, hk, rfl, hno⟩ := hrel
    by_cases hlt : k < s.size
    · have hts := take_snoc s k hlt
      by_cases hc : s[k] = 10
      · have H : Hid (∃ rest, s.data.toList.drop a = (s.data.toList.take k).drop a ++ 10 :: rest ∧ ((s.data.toList.take k).drop a).length = k - a) := by
          refine ⟨s.data.toList.drop (k + 1), ?_, by simp; omega⟩
          have e : s.data.toList = s.data.toList.take k ++ 10 :: s.data.toList.drop (k + 1) := by
            have h := List.take_append_drop (k + 1) s.data.toList
            rw [hts, hc, List.append_assoc] at h
            exact h.symm
          have h2 := congrArg (List.drop a) e
          rw [List.drop_append_of_le_length (by simp; omega)] at h2
          exact h2
        have q1 : s[k].toNat = 10 := by rw [hc]; rfl
        clear hc hts
        go_wp2_with fail
        go_ret
        obtain ⟨rest, h1, h2⟩ := H.out
        exact ⟨.inr ⟨_, rest, by rw [h2, show a + (k - a) = k by omega]; rfl, h1, hno.out⟩, rfl⟩
      · have H : Hid ((10 : UInt8) ∉ (s.data.toList.take (k + 1)).drop a) := by
          show _ ∉ _
          rw [hts, List.drop_append_of_le_length (by simp; omega), List.mem_append]
          rintro (h | h)
          · exact hno.out h
          · exact hc (List.mem_singleton.1 h).symm
        have q1 : ¬ s[k].toNat = 10 := fun h => hc (UInt8.toNat_inj.1 h)
        clear hc hts
        go_wp2_with fail
        go_round
        case rel => exact ⟨k + 1, by omega, by omega, by go_num, H⟩
        case measure => simp [intOf]; omega
    · have H : Hid ((10 : UInt8) ∉ s.data.toList.drop a) := by
        have h := hno.out
        rw [List.take_of_length_le (by simp; omega)] at h
        exact h
      go_wp2_with fail
      go_ret
      exact ⟨.inl ⟨rfl, H.out⟩, rfl⟩
end Go.Proofs.YtmofnmklodmkmaaGreatDoor
