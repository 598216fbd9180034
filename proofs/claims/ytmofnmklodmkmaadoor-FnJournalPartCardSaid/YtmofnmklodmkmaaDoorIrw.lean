/- RecordValid of the program, whole. -/
import Derived.Test.YtmofnmklodmkmaaDoorIrv
set_option linter.unusedVariables false
set_option linter.unusedSimpArgs false
namespace Go.Proofs.YtmofnmklodmkmaaDoor
open Go.RowKit Go.BigFrame

set_option maxHeartbeats 1000000 in
set_option maxRecDepth 100000 in
theorem k_val1 (i : Int) (s : ByteArray) (w : World) (hs : s.size ≤ maxLen) :
    Calls Tryd.prog 71 #[.agg #[.int .i64 i, .string s]] w fun e w' => e = .returned (.bool (inR i && nvB s)) ∧ Below w.heap.size w w' := by
  have hb := hide ((Below.refl w.heap.size w).alloc (Nat.le_refl _) (.cells #[.int .i64 i, .string s] 76))
  have HS := hide hs
  clear hs
  cases h1 : inR i
  · have H1 := hide h1
    clear h1
    go_enter Tryd.func71, Tryd.ntmps71
    go_wp2_with fail
    refine (p_idt H1.out _).mono ?_
    rintro e w' ⟨rfl, rfl⟩
    go_wp2_with fail
    go_ret
    exact ⟨rfl, hb.out⟩
  · have H1 := hide h1
    clear h1
    go_enter Tryd.func71, Tryd.ntmps71
    go_wp2_with fail
    refine (p_idt H1.out _).mono ?_
    rintro e w' ⟨rfl, rfl⟩
    go_wp2_with fail
    refine (i_NameValid s _ HS.out).mono ?_
    rintro e w' ⟨rfl, rfl⟩
    go_wp2_with fail
    go_ret
    exact ⟨rfl, hb.out⟩
set_option maxHeartbeats 1000000 in
set_option maxRecDepth 100000 in
theorem k_val2 (i d : Int) (w : World) :
    Calls Tryd.prog 75 #[.agg #[.int .i64 i, .int .i64 d]] w fun e w' => e = .returned (.bool (inR i && inT d)) ∧ Below w.heap.size w w' := by
  have hb := hide ((Below.refl w.heap.size w).alloc (Nat.le_refl _) (.cells #[.int .i64 i, .int .i64 d] 78))
  cases h1 : inR i
  · have H1 := hide h1
    clear h1
    go_enter Tryd.func75, Tryd.ntmps75
    go_wp2_with fail
    refine (p_idt H1.out _).mono ?_
    rintro e w' ⟨rfl, rfl⟩
    go_wp2_with fail
    go_ret
    exact ⟨rfl, hb.out⟩
  · have H1 := hide h1
    clear h1
    by_cases h2 : 1 ≤ d
    · have H2 : Hid (inT d = decide (d ≤ 10)) := by show _ = _; unfold inT; simp [h2]
      go_enter Tryd.func75, Tryd.ntmps75
      go_wp2_with fail
      refine (p_idt H1.out _).mono ?_
      rintro e w' ⟨rfl, rfl⟩
      go_wp2_with fail
      go_ret
      exact ⟨by rw [H2.out]; rfl, hb.out⟩
    · have H2 : Hid (inT d = false) := by show _ = _; unfold inT; simp [h2]
      go_enter Tryd.func75, Tryd.ntmps75
      go_wp2_with fail
      refine (p_idt H1.out _).mono ?_
      rintro e w' ⟨rfl, rfl⟩
      go_wp2_with fail
      go_ret
      exact ⟨by rw [H2.out]; rfl, hb.out⟩
set_option maxHeartbeats 1000000 in
set_option maxRecDepth 100000 in
theorem k_val3 (s t : ByteArray) (w : World) (hs : s.size ≤ maxLen) (ht : t.size ≤ maxLen) :
    Calls Tryd.prog 76 #[.agg #[.string s, .string t]] w fun e w' => e = .returned (.bool (nvB s && (nvB t && !decide (s = t)))) ∧ Below w.heap.size w w' := by
  have hb := hide ((Below.refl w.heap.size w).alloc (Nat.le_refl _) (.cells #[.string s, .string t] 80))
  have HS := hide hs
  have HT := hide ht
  clear hs ht
  cases h1 : nvB s
  · have H1 := hide h1
    clear h1
    go_enter Tryd.func76, Tryd.ntmps76
    go_wp2_with fail
    refine (i_NV H1.out _ HS.out).mono ?_
    rintro e w' ⟨rfl, rfl⟩
    go_wp2_with fail
    go_ret
    exact ⟨rfl, hb.out⟩
  have H1 := hide h1
  clear h1
  cases h2 : nvB t
  · have H2 := hide h2
    clear h2
    go_enter Tryd.func76, Tryd.ntmps76
    go_wp2_with fail
    refine (i_NV H1.out _ HS.out).mono ?_
    rintro e w' ⟨rfl, rfl⟩
    go_wp2_with fail
    refine (i_NV H2.out _ HT.out).mono ?_
    rintro e w' ⟨rfl, rfl⟩
    go_wp2_with fail
    go_ret
    exact ⟨rfl, hb.out⟩
  have H2 := hide h2
  clear h2
  go_enter Tryd.func76, Tryd.ntmps76
  go_wp2_with fail
  refine (i_NV H1.out _ HS.out).mono ?_
  rintro e w' ⟨rfl, rfl⟩
  go_wp2_with fail
  refine (i_NV H2.out _ HT.out).mono ?_
  rintro e w' ⟨rfl, rfl⟩
  go_wp2_with fail
  go_ret
  exact ⟨by rw [← beq_str]; rfl, hb.out⟩

/-! Which function a value's method is. -/
theorem me_p (n : Nat) (v : Value) (w : World) : (method (n + 1) 76 v "loop.example/fanoutlog/impl.valid").run Tryd.prog w = .ok (71, v) w := by kernel_rfl
theorem me_m (n : Nat) (v : Value) (w : World) : (method (n + 1) 78 v "loop.example/fanoutlog/impl.valid").run Tryd.prog w = .ok (75, v) w := by kernel_rfl
theorem me_f (n : Nat) (s t : Value) (w : World) : (method (n + 1) 82 (.agg #[s, t]) "loop.example/fanoutlog/impl.valid").run Tryd.prog w = .ok (76, .agg #[s, t]) w := by kernel_rfl
theorem me_u (n : Nat) (s t : Value) (w : World) : (method (n + 1) 83 (.agg #[s, t]) "loop.example/fanoutlog/impl.valid").run Tryd.prog w = .ok (76, .agg #[s, t]) w := by kernel_rfl
end Go.Proofs.YtmofnmklodmkmaaDoor
