/- RecordValid of the program. -/
import Derived.Test.YtiejbliadegcdaaRt
import Derived.Test.YtiejbliadegcdaaPid
set_option linter.unusedVariables false
set_option linter.unusedSimpArgs false
namespace Go.Proofs.Ytiejbliadegcdaa
open Go.RowKit Go.BigFrame

abbrev kP (i : Int) (s : ByteArray) : Value := .iface 50 (.agg #[.int .i64 i, .string s])
abbrev kM (i d : Int) : Value := .iface 52 (.agg #[.int .i64 i, .int .i64 d])
abbrev kF (s t : ByteArray) : Value := .iface 56 (.agg #[.string s, .string t])
abbrev kU (s t : ByteArray) : Value := .iface 57 (.agg #[.string s, .string t])

set_option maxHeartbeats 1000000 in
set_option maxRecDepth 100000 in
theorem k_new1 (i d : Int) (s t : ByteArray) (w : World) :
    Calls Try.prog 18 #[.agg #[.int .i64 1, .int .i64 i, .int .i64 d, .string s, .string t]] w fun e w' => e = .returned (.tuple #[kP i s, .bool true]) ∧ Below w.heap.size w w' := by
  have hb := hide ((Below.refl w.heap.size w).alloc (Nat.le_refl _) (rC 1 i d s t))
  go_enter Try.func18, Try.ntmps18
  go_wp2_with fail
  go_ret2
  exact ⟨rfl, hb.out⟩
set_option maxHeartbeats 1000000 in
set_option maxRecDepth 100000 in
theorem k_new2 (i d : Int) (s t : ByteArray) (w : World) :
    Calls Try.prog 18 #[.agg #[.int .i64 2, .int .i64 i, .int .i64 d, .string s, .string t]] w fun e w' => e = .returned (.tuple #[kM i d, .bool true]) ∧ Below w.heap.size w w' := by
  have hb := hide ((Below.refl w.heap.size w).alloc (Nat.le_refl _) (rC 2 i d s t))
  go_enter Try.func18, Try.ntmps18
  go_wp2_with fail
  go_ret2
  exact ⟨rfl, hb.out⟩
set_option maxHeartbeats 1000000 in
set_option maxRecDepth 100000 in
theorem k_new3 (i d : Int) (s t : ByteArray) (w : World) :
    Calls Try.prog 18 #[.agg #[.int .i64 3, .int .i64 i, .int .i64 d, .string s, .string t]] w fun e w' => e = .returned (.tuple #[kF s t, .bool true]) ∧ Below w.heap.size w w' := by
  have hb := hide ((Below.refl w.heap.size w).alloc (Nat.le_refl _) (rC 3 i d s t))
  go_enter Try.func18, Try.ntmps18
  go_wp2_with fail
  go_ret2
  exact ⟨rfl, hb.out⟩
set_option maxHeartbeats 1000000 in
set_option maxRecDepth 100000 in
theorem k_new4 (i d : Int) (s t : ByteArray) (w : World) :
    Calls Try.prog 18 #[.agg #[.int .i64 4, .int .i64 i, .int .i64 d, .string s, .string t]] w fun e w' => e = .returned (.tuple #[kU s t, .bool true]) ∧ Below w.heap.size w w' := by
  have hb := hide ((Below.refl w.heap.size w).alloc (Nat.le_refl _) (rC 4 i d s t))
  go_enter Try.func18, Try.ntmps18
  go_wp2_with fail
  go_ret2
  exact ⟨rfl, hb.out⟩
set_option maxHeartbeats 1000000 in
set_option maxRecDepth 100000 in
theorem k_new0 (k i d : Int) (s t : ByteArray) (w : World) (h1 : ¬ k = 1) (h2 : ¬ k = 2) (h3 : ¬ k = 3) (h4 : ¬ k = 4) :
    Calls Try.prog 18 #[.agg #[.int .i64 k, .int .i64 i, .int .i64 d, .string s, .string t]] w fun e w' => e = .returned (.tuple #[.nilIface, .bool false]) ∧ Below w.heap.size w w' := by
  have hb := hide ((Below.refl w.heap.size w).alloc (Nat.le_refl _) (rC k i d s t))
  have d1 : decide (k = 1) = false := by simpa using h1
  have d2 : decide (k = 2) = false := by simpa using h2
  have d3 : decide (k = 3) = false := by simpa using h3
  have d4 : decide (k = 4) = false := by simpa using h4
  go_enter Try.func18, Try.ntmps18
  go_wp2_with fail
  go_ret2
  exact ⟨rfl, hb.out⟩

/-! What each assertion says of a value of each type. -/
theorem as_pp (v : Value) (w : World) : (Instr.typeAssert (.iface 50 v) 37 50 true).run Try.prog w = .ok (.tuple #[v, .bool true]) w := by kernel_rfl
theorem as_mp (v : Value) (w : World) : (Instr.typeAssert (.iface 52 v) 37 50 true).run Try.prog w = .ok (.tuple #[.agg #[.int .i64 0, .string ⟨#[]⟩], .bool false]) w := by kernel_rfl
theorem as_mm (v : Value) (w : World) : (Instr.typeAssert (.iface 52 v) 37 52 true).run Try.prog w = .ok (.tuple #[v, .bool true]) w := by kernel_rfl
theorem as_fp (v : Value) (w : World) : (Instr.typeAssert (.iface 56 v) 37 50 true).run Try.prog w = .ok (.tuple #[.agg #[.int .i64 0, .string ⟨#[]⟩], .bool false]) w := by kernel_rfl
theorem as_fm (v : Value) (w : World) : (Instr.typeAssert (.iface 56 v) 37 52 true).run Try.prog w = .ok (.tuple #[.agg #[.int .i64 0, .int .i64 0], .bool false]) w := by kernel_rfl
theorem as_ff (v : Value) (w : World) : (Instr.typeAssert (.iface 56 v) 37 56 true).run Try.prog w = .ok (.tuple #[v, .bool true]) w := by kernel_rfl
theorem as_up (v : Value) (w : World) : (Instr.typeAssert (.iface 57 v) 37 50 true).run Try.prog w = .ok (.tuple #[.agg #[.int .i64 0, .string ⟨#[]⟩], .bool false]) w := by kernel_rfl
theorem as_um (v : Value) (w : World) : (Instr.typeAssert (.iface 57 v) 37 52 true).run Try.prog w = .ok (.tuple #[.agg #[.int .i64 0, .int .i64 0], .bool false]) w := by kernel_rfl
theorem as_uf (v : Value) (w : World) : (Instr.typeAssert (.iface 57 v) 37 56 true).run Try.prog w = .ok (.tuple #[.agg #[.string ⟨#[]⟩, .string ⟨#[]⟩], .bool false]) w := by kernel_rfl
theorem as_uu (v : Value) (w : World) : (Instr.typeAssert (.iface 57 v) 37 57 true).run Try.prog w = .ok (.tuple #[v, .bool true]) w := by kernel_rfl
set_option maxHeartbeats 1000000 in
set_option maxRecDepth 100000 in
theorem k_of1 (i : Int) (s : ByteArray) (w : World) :
    Calls Try.prog 19 #[kP i s] w fun e w' => e = .returned (rV 1 i 0 s ⟨#[]⟩) ∧ Below w.heap.size w w' := by
  have a0 := as_pp
  go_enter Try.func19, Try.ntmps19
  go_wp2_with fail
  exact bodyPost_ret (v := rV 1 i 0 s ⟨#[]⟩) (by simp [results, Try.results19, go_sem]) rfl ⟨rfl, ((Below.refl _ w).alloc (Nat.le_refl _) _).alloc (by simp) _⟩
set_option maxHeartbeats 1000000 in
set_option maxRecDepth 100000 in
theorem k_of2 (i d : Int) (w : World) :
    Calls Try.prog 19 #[kM i d] w fun e w' => e = .returned (rV 2 i d ⟨#[]⟩ ⟨#[]⟩) ∧ Below w.heap.size w w' := by
  have a0 := as_mp
  have a1 := as_mm
  go_enter Try.func19, Try.ntmps19
  go_wp2_with fail
  exact bodyPost_ret (v := rV 2 i d ⟨#[]⟩ ⟨#[]⟩) (by simp [results, Try.results19, go_sem]) rfl ⟨rfl, ((Below.refl _ w).alloc (Nat.le_refl _) _).alloc (by simp) _⟩
set_option maxHeartbeats 1000000 in
set_option maxRecDepth 100000 in
theorem k_of3 (s t : ByteArray) (w : World) :
    Calls Try.prog 19 #[kF s t] w fun e w' => e = .returned (rV 3 0 0 s t) ∧ Below w.heap.size w w' := by
  have a0 := as_fp
  have a1 := as_fm
  have a2 := as_ff
  go_enter Try.func19, Try.ntmps19
  go_wp2_with fail
  exact bodyPost_ret (v := rV 3 0 0 s t) (by simp [results, Try.results19, go_sem]) rfl ⟨rfl, ((Below.refl _ w).alloc (Nat.le_refl _) _).alloc (by simp) _⟩
set_option maxHeartbeats 1000000 in
set_option maxRecDepth 100000 in
theorem k_of4 (s t : ByteArray) (w : World) :
    Calls Try.prog 19 #[kU s t] w fun e w' => e = .returned (rV 4 0 0 s t) ∧ Below w.heap.size w w' := by
  have a0 := as_up
  have a1 := as_um
  have a2 := as_uf
  have a3 := as_uu
  go_enter Try.func19, Try.ntmps19
  go_wp2_with fail
  exact bodyPost_ret (v := rV 4 0 0 s t) (by simp [results, Try.results19, go_sem]) rfl ⟨rfl, ((Below.refl _ w).alloc (Nat.le_refl _) _).alloc (by simp) _⟩
end Go.Proofs.Ytiejbliadegcdaa
