/- JournalFrom: the spec's. -/
import Derived.Test.YtmofnmklodmkmaaDoorJt
import Derived.Test.YtmofnmklodmkmaaDoorJe
set_option linter.unusedVariables false
set_option linter.unusedSimpArgs false
namespace Go.Proofs.YtmofnmklodmkmaaDoor
open Go.RowKit

theorem rec_info : (Tryd.prog.info? 41).map (fun i => (i.zero, i.size, i.bytes)) = some (some (.agg #[.int .i64 0, .int .i64 0, .int .i64 0, .string ByteArray.empty, .string ByteArray.empty]), 5, 56) := by kernel_rfl
theorem info_parts5 {P : Program} {e : TypeId} {z : Value} {size bytes : Nat} (h : (P.info? e).map (fun i => (i.zero, i.size, i.bytes)) = some (some z, size, bytes)) : ∃ i, P.info? e = some i ∧ i.zero = some z ∧ i.size = size ∧ i.bytes = bytes := by
  rw [Option.map_eq_some_iff] at h
  obtain ⟨i, h1, h2⟩ := h
  simp at h2
  exact ⟨i, h1, h2.1, h2.2.1, h2.2.2⟩
theorem rd_five (w : World) (e : TypeId) (r : Rec) : Rd (w.alloc (.cells #[.int .i64 r.1, .int .i64 r.2.1, .int .i64 r.2.2.1, .string r.2.2.2.1, .string r.2.2.2.2] e)) (w.heap.size + 1) 5 (some ⟨w.heap.size, 0, none⟩) 1 (rcells [r]) :=
  ⟨by rw [rcells_len]; rfl, fun _ => ⟨_, 0, rfl, by omega, fun j u hu => by
    rw [Nat.zero_add]
    refine ((Blk.new w e #[.int .i64 r.1, .int .i64 r.2.1, .int .i64 r.2.2.1, .string r.2.2.2.1, .string r.2.2.2.2]).cell j).trans ?_
    rw [← hu, rcells_cons, rcells_nil, List.append_nil]
    rw [← Array.getElem?_toList]
    rfl⟩⟩
/-- What a journal gives. -/
def OwnJF (s : Txt) (w : World) (e : Ending) (w' : World) : Prop := ∃ v X n why, e = .returned (.tuple #[v, .int .i64 ((n : Nat) : Int), .int .i64 why]) ∧ jf s = (X, n, why) ∧ OwnR w.heap.size w' v X ∧ Below w.heap.size w w'

end Go.Proofs.YtmofnmklodmkmaaDoor
