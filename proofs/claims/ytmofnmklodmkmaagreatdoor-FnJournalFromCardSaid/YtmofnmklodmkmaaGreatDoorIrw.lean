/- RecordValid of the program, whole. -/
import Derived.Test.YtmofnmklodmkmaaGreatDoorIrv
set_option linter.unusedVariables false
set_option linter.unusedSimpArgs false
namespace Go.Proofs.YtmofnmklodmkmaaGreatDoor
open Go.RowKit Go.BigFrame

set_option maxHeartbeats 1000000 in
set_option maxRecDepth 100000 in
theorem k_val1 (i : Int) (s : ByteArray) (w : World) (hs : s.size ≤ maxLen) :
    Calls Tryz.prog 133 #[.agg #[.int .i64 i, .string s]] w fun e w' => e = .returned (.bool (inR i && nvB s)) ∧ Below w.heap.size w w' := by
  have hb := hide ((Below.refl w.heap.size w).alloc (Nat.le_refl _) (.cells #[.int .i64 i, .string s] 96))
  have HS := hide hs
  clear hs
  cases h1 : inR i
  · have H1 := hide h1
    clear h1
    go_enter Tryz.func133, Tryz.ntmps133
    go_wp2_with fail
    refine (p_idt H1.out _).mono ?_
    rintro e w' ⟨rfl, rfl⟩
    go_wp2_with fail
    go_ret
    exact ⟨rfl, hb.out⟩
  · have H1 := hide h1
    clear h1
    go_enter Tryz.func133, Tryz.ntmps133
    go_wp2_with fail
    refine (p_idt H1.out _).mono ?_
    rintro e w' ⟨rfl, rfl⟩
    go_wp2_with fail
    refine (i_NameValid s _ HS.out).mono ?_
    rintro e w' ⟨rfl, rfl⟩
    go_wp2_with fail
    go_ret
    exact ⟨rfl, hb.out⟩
set_option maxHeartbeats 1000000 in
set_option maxRecDepth 100000 in
theorem k_val2 (i d : Int) (w : World) :
    Calls Tryz.prog 137 #[.agg #[.int .i64 i, .int .i64 d]] w fun e w' => e = .returned (.bool (inR i && inT d)) ∧ Below w.heap.size w w' := by
  have hb := hide ((Below.refl w.heap.size w).alloc (Nat.le_refl _) (.cells #[.int .i64 i, .int .i64 d] 98))
  cases h1 : inR i
  · have H1 := hide h1
    clear h1
    go_enter Tryz.func137, Tryz.ntmps137
    go_wp2_with fail
    refine (p_idt H1.out _).mono ?_
    rintro e w' ⟨rfl, rfl⟩
    go_wp2_with fail
    go_ret
    exact ⟨rfl, hb.out⟩
  · have H1 := hide h1
    clear h1
    by_cases h2 : 1 ≤ d
    · have H2 : Hid (inT d = decide (d ≤ 10)) := by show _ = _; unfold inT; simp [h2]
      go_enter Tryz.func137, Tryz.ntmps137
      go_wp2_with fail
      refine (p_idt H1.out _).mono ?_
      rintro e w' ⟨rfl, rfl⟩
      go_wp2_with fail
      go_ret
      exact ⟨by rw [H2.out]; rfl, hb.out⟩
    · have H2 : Hid (inT d = false) := by show _ = _; unfold inT; simp [h2]
      go_enter Tryz.func137, Tryz.ntmps137
      go_wp2_with fail
      refine (p_idt H1.out _).mono ?_
      rintro e w' ⟨rfl, rfl⟩
      go_wp2_with fail
      go_ret
      exact ⟨by rw [H2.out]; rfl, hb.out⟩
set_option maxHeartbeats 1000000 in
set_option maxRecDepth 100000 in
theorem k_val3 (s t : ByteArray) (w : World) (hs : s.size ≤ maxLen) (ht : t.size ≤ maxLen) :
    Calls Tryz.prog 138 #[.agg #[.string s, .string t]] w fun e w' => e = .returned (.bool (nvB s && (nvB t && !decide (s = t)))) ∧ Below w.heap.size w w' := by
  have hb := hide ((Below.refl w.heap.size w).alloc (Nat.le_refl _) (.cells #[.string s, .string t] 100))
  have HS := hide hs
  have HT := hide ht
  clear hs ht
  cases h1 : nvB s
  · have H1 := hide h1
    clear h1
    go_enter Tryz.func138, Tryz.ntmps138
    go_wp2_with fail
    refine (i_NV H1.out _ HS.out).mono ?_
    rintro e w' ⟨rfl, rfl⟩
    go_wp2_with fail
    go_ret
    exact ⟨rfl, hb.out⟩
  have H1 := hide h1
  clear h1
  cases h2 : nvB t
  · have H2 := hide h2
    clear h2
    go_enter Tryz.func138, Tryz.ntmps138
    go_wp2_with fail
    refine (i_NV H1.out _ HS.out).mono ?_
    rintro e w' ⟨rfl, rfl⟩
    go_wp2_with fail
    refine (i_NV H2.out _ HT.out).mono ?_
    rintro e w' ⟨rfl, rfl⟩
    go_wp2_with fail
    go_ret
    exact ⟨rfl, hb.out⟩
  have H2 := hide h2
  clear h2
  go_enter Tryz.func138, Tryz.ntmps138
  go_wp2_with fail
  refine (i_NV H1.out _ HS.out).mono ?_
  rintro e w' ⟨rfl, rfl⟩
  go_wp2_with fail
  refine (i_NV H2.out _ HT.out).mono ?_
  rintro e w' ⟨rfl, rfl⟩
  go_wp2_with fail
  go_ret
  exact ⟨by rw [← beq_str]; rfl, hb.out⟩

/-! Which function a value's method is. -/
theorem me_p (n : Nat) (v : Value) (w : World) : (method (n + 1) 96 v "loop.example/fanoutlog/impl.valid").run Tryz.prog w = .ok (133, v) w := by kernel_rfl
theorem me_m (n : Nat) (v : Value) (w : World) : (method (n + 1) 98 v "loop.example/fanoutlog/impl.valid").run Tryz.prog w = .ok (137, v) w := by kernel_rfl
theorem me_f (n : Nat) (s t : Value) (w : World) : (method (n + 1) 102 (.agg #[s, t]) "loop.example/fanoutlog/impl.valid").run Tryz.prog w = .ok (138, .agg #[s, t]) w := by kernel_rfl
theorem me_u (n : Nat) (s t : Value) (w : World) : (method (n + 1) 103 (.agg #[s, t]) "loop.example/fanoutlog/impl.valid").run Tryz.prog w = .ok (138, .agg #[s, t]) w := by kernel_rfl
end Go.Proofs.YtmofnmklodmkmaaGreatDoor
