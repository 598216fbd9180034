/- RecordValid of the program. -/
import Derived.Test.YtmofnmklodmkmaaGreatDoorRt
import Derived.Test.YtmofnmklodmkmaaGreatDoorPid
set_option linter.unusedVariables false
set_option linter.unusedSimpArgs false
namespace Go.Proofs.YtmofnmklodmkmaaGreatDoor
open Go.RowKit Go.BigFrame

abbrev kP (i : Int) (s : ByteArray) : Value := .iface 96 (.agg #[.int .i64 i, .string s])
abbrev kM (i d : Int) : Value := .iface 98 (.agg #[.int .i64 i, .int .i64 d])
abbrev kF (s t : ByteArray) : Value := .iface 102 (.agg #[.string s, .string t])
abbrev kU (s t : ByteArray) : Value := .iface 103 (.agg #[.string s, .string t])

set_option maxHeartbeats 1000000 in
set_option maxRecDepth 100000 in
theorem k_new1 (i d : Int) (s t : ByteArray) (w : World) :
    Calls Tryz.prog 49 #[.agg #[.int .i64 1, .int .i64 i, .int .i64 d, .string s, .string t]] w fun e w' => e = .returned (.tuple #[kP i s, .bool true]) ∧ Below w.heap.size w w' := by
  have hb := hide ((Below.refl w.heap.size w).alloc (Nat.le_refl _) (rC 1 i d s t))
  go_enter Tryz.func49, Tryz.ntmps49
  go_wp2_with fail
  go_ret2
  exact ⟨rfl, hb.out⟩
set_option maxHeartbeats 1000000 in
set_option maxRecDepth 100000 in
theorem k_new2 (i d : Int) (s t : ByteArray) (w : World) :
    Calls Tryz.prog 49 #[.agg #[.int .i64 2, .int .i64 i, .int .i64 d, .string s, .string t]] w fun e w' => e = .returned (.tuple #[kM i d, .bool true]) ∧ Below w.heap.size w w' := by
  have hb := hide ((Below.refl w.heap.size w).alloc (Nat.le_refl _) (rC 2 i d s t))
  go_enter Tryz.func49, Tryz.ntmps49
  go_wp2_with fail
  go_ret2
  exact ⟨rfl, hb.out⟩
set_option maxHeartbeats 1000000 in
set_option maxRecDepth 100000 in
theorem k_new3 (i d : Int) (s t : ByteArray) (w : World) :
    Calls Tryz.prog 49 #[.agg #[.int .i64 3, .int .i64 i, .int .i64 d, .string s, .string t]] w fun e w' => e = .returned (.tuple #[kF s t, .bool true]) ∧ Below w.heap.size w w' := by
  have hb := hide ((Below.refl w.heap.size w).alloc (Nat.le_refl _) (rC 3 i d s t))
  go_enter Tryz.func49, Tryz.ntmps49
  go_wp2_with fail
  go_ret2
  exact ⟨rfl, hb.out⟩
set_option maxHeartbeats 1000000 in
set_option maxRecDepth 100000 in
theorem k_new4 (i d : Int) (s t : ByteArray) (w : World) :
    Calls Tryz.prog 49 #[.agg #[.int .i64 4, .int .i64 i, .int .i64 d, .string s, .string t]] w fun e w' => e = .returned (.tuple #[kU s t, .bool true]) ∧ Below w.heap.size w w' := by
  have hb := hide ((Below.refl w.heap.size w).alloc (Nat.le_refl _) (rC 4 i d s t))
  go_enter Tryz.func49, Tryz.ntmps49
  go_wp2_with fail
  go_ret2
  exact ⟨rfl, hb.out⟩
set_option maxHeartbeats 1000000 in
set_option maxRecDepth 100000 in
theorem k_new0 (k i d : Int) (s t : ByteArray) (w : World) (h1 : ¬ k = 1) (h2 : ¬ k = 2) (h3 : ¬ k = 3) (h4 : ¬ k = 4) :
    Calls Tryz.prog 49 #[.agg #[.int .i64 k, .int .i64 i, .int .i64 d, .string s, .string t]] w fun e w' => e = .returned (.tuple #[.nilIface, .bool false]) ∧ Below w.heap.size w w' := by
  have hb := hide ((Below.refl w.heap.size w).alloc (Nat.le_refl _) (rC k i d s t))
  have d1 : decide (k = 1) = false := by simpa using h1
  have d2 : decide (k = 2) = false := by simpa using h2
  have d3 : decide (k = 3) = false := by simpa using h3
  have d4 : decide (k = 4) = false := by simpa using h4
  go_enter Tryz.func49, Tryz.ntmps49
  go_wp2_with fail
  go_ret2
  exact ⟨rfl, hb.out⟩

/-! What each assertion says of a value of each type. -/
theorem as_pp (v : Value) (w : World) : (Instr.typeAssert (.iface 96 v) 51 96 true).run Tryz.prog w = .ok (.tuple #[v, .bool true]) w := by kernel_rfl
theorem as_mp (v : Value) (w : World) : (Instr.typeAssert (.iface 98 v) 51 96 true).run Tryz.prog w = .ok (.tuple #[.agg #[.int .i64 0, .string ⟨#[]⟩], .bool false]) w := by kernel_rfl
theorem as_mm (v : Value) (w : World) : (Instr.typeAssert (.iface 98 v) 51 98 true).run Tryz.prog w = .ok (.tuple #[v, .bool true]) w := by kernel_rfl
theorem as_fp (v : Value) (w : World) : (Instr.typeAssert (.iface 102 v) 51 96 true).run Tryz.prog w = .ok (.tuple #[.agg #[.int .i64 0, .string ⟨#[]⟩], .bool false]) w := by kernel_rfl
theorem as_fm (v : Value) (w : World) : (Instr.typeAssert (.iface 102 v) 51 98 true).run Tryz.prog w = .ok (.tuple #[.agg #[.int .i64 0, .int .i64 0], .bool false]) w := by kernel_rfl
theorem as_ff (v : Value) (w : World) : (Instr.typeAssert (.iface 102 v) 51 102 true).run Tryz.prog w = .ok (.tuple #[v, .bool true]) w := by kernel_rfl
theorem as_up (v : Value) (w : World) : (Instr.typeAssert (.iface 103 v) 51 96 true).run Tryz.prog w = .ok (.tuple #[.agg #[.int .i64 0, .string ⟨#[]⟩], .bool false]) w := by kernel_rfl
theorem as_um (v : Value) (w : World) : (Instr.typeAssert (.iface 103 v) 51 98 true).run Tryz.prog w = .ok (.tuple #[.agg #[.int .i64 0, .int .i64 0], .bool false]) w := by kernel_rfl
theorem as_uf (v : Value) (w : World) : (Instr.typeAssert (.iface 103 v) 51 102 true).run Tryz.prog w = .ok (.tuple #[.agg #[.string ⟨#[]⟩, .string ⟨#[]⟩], .bool false]) w := by kernel_rfl
theorem as_uu (v : Value) (w : World) : (Instr.typeAssert (.iface 103 v) 51 103 true).run Tryz.prog w = .ok (.tuple #[v, .bool true]) w := by kernel_rfl
set_option maxHeartbeats 1000000 in
set_option maxRecDepth 100000 in
theorem k_of1 (i : Int) (s : ByteArray) (w : World) :
    Calls Tryz.prog 50 #[kP i s] w fun e w' => e = .returned (rV 1 i 0 s ⟨#[]⟩) ∧ Below w.heap.size w w' := by
  have a0 := as_pp
  go_enter Tryz.func50, Tryz.ntmps50
  go_wp2_with fail
  exact bodyPost_ret (v := rV 1 i 0 s ⟨#[]⟩) (by simp [results, Tryz.results50, go_sem]) rfl ⟨rfl, ((Below.refl _ w).alloc (Nat.le_refl _) _).alloc (by simp) _⟩
set_option maxHeartbeats 1000000 in
set_option maxRecDepth 100000 in
theorem k_of2 (i d : Int) (w : World) :
    Calls Tryz.prog 50 #[kM i d] w fun e w' => e = .returned (rV 2 i d ⟨#[]⟩ ⟨#[]⟩) ∧ Below w.heap.size w w' := by
  have a0 := as_mp
  have a1 := as_mm
  go_enter Tryz.func50, Tryz.ntmps50
  go_wp2_with fail
  exact bodyPost_ret (v := rV 2 i d ⟨#[]⟩ ⟨#[]⟩) (by simp [results, Tryz.results50, go_sem]) rfl ⟨rfl, ((Below.refl _ w).alloc (Nat.le_refl _) _).alloc (by simp) _⟩
set_option maxHeartbeats 1000000 in
set_option maxRecDepth 100000 in
theorem k_of3 (s t : ByteArray) (w : World) :
    Calls Tryz.prog 50 #[kF s t] w fun e w' => e = .returned (rV 3 0 0 s t) ∧ Below w.heap.size w w' := by
  have a0 := as_fp
  have a1 := as_fm
  have a2 := as_ff
  go_enter Tryz.func50, Tryz.ntmps50
  go_wp2_with fail
  exact bodyPost_ret (v := rV 3 0 0 s t) (by simp [results, Tryz.results50, go_sem]) rfl ⟨rfl, ((Below.refl _ w).alloc (Nat.le_refl _) _).alloc (by simp) _⟩
set_option maxHeartbeats 1000000 in
set_option maxRecDepth 100000 in
theorem k_of4 (s t : ByteArray) (w : World) :
    Calls Tryz.prog 50 #[kU s t] w fun e w' => e = .returned (rV 4 0 0 s t) ∧ Below w.heap.size w w' := by
  have a0 := as_up
  have a1 := as_um
  have a2 := as_uf
  have a3 := as_uu
  go_enter Tryz.func50, Tryz.ntmps50
  go_wp2_with fail
  exact bodyPost_ret (v := rV 4 0 0 s t) (by simp [results, Tryz.results50, go_sem]) rfl ⟨rfl, ((Below.refl _ w).alloc (Nat.le_refl _) _).alloc (by simp) _⟩
end Go.Proofs.YtmofnmklodmkmaaGreatDoor
