/- container/heap over the heap of a box: Push, Pop. -/
import Derived.Test.YtfncmkmhdddmiaaHd
import Derived.Test.YtfncmkmhdddmiaaBp
set_option linter.unusedVariables false
set_option linter.unusedSimpArgs false
namespace Go.Proofs.Ytfncmkmhdddmiaa
open Go.RowKit Go.BigFrame

theorem as_int (v : Value) (w : World) : (Instr.typeAssert (.iface 3 v) 20 3 false).run Try.prog w = .ok v w := by kernel_rfl

/-- Behind a push: the heap's variable is block p, its numbers are in block g. -/
def Pushed (base p : Nat) (T : TypeId) (L : List Int) (w : World) (e : Ending) (w' : World) : Prop :=
  e = .returned (.tuple #[]) ∧ ∃ g m c, p ≠ g ∧ L.length = m ∧ Blk w' p T #[.slice (some ⟨g, 0, none⟩) m c] ∧ Row w' base g m c L ∧ Below base w w'

theorem pushed_of {base p m c g9 c9 q : Nat} {A : Option Addr} {x : Int} {T TI : TypeId} {L : List Int} {w w9 : World} (hp : Blk w p T #[.slice A m c]) (h : w.ownsRow base 3 1 (.slice A m c) m (L.map (Value.int .i64))) (hbp : base ≤ p) (hpo : (Value.slice A m c).ownBlock ≠ some p)
    (own9 : w9.ownsRow base 3 1 (.slice (some ⟨g9, 0, none⟩) (m + 1) c9) (m + 1) (L.map (Value.int .i64) ++ [Value.int .i64 x])) (gr9 : ((w.alloc (.cells #[Value.int .i64 x] TI)).drewN q).grownBy w9 (Value.slice A m c).ownBlock)
    (at9 : (Value.slice (some ⟨g9, 0, none⟩) (m + 1) c9).ownBlock = (Value.slice A m c).ownBlock ∨ (Value.slice (some ⟨g9, 0, none⟩) (m + 1) c9).ownBlock = some ((w.alloc (.cells #[Value.int .i64 x] TI)).drewN q).heap.size) :
    Blk w9 p T #[.slice A m c] ∧ Pushed base p T (L ++ [x]) w (.returned (.tuple #[])) (w9.setCell ⟨p, 0, none⟩ (.slice (some ⟨g9, 0, none⟩) (m + 1) c9)) := by
  have hlt := hp.lt
  have hpg : p ≠ g9 := by
    rcases at9 with e | e
    · intro e2; subst e2; exact hpo e.symm
    · simp [Value.ownBlock] at e; omega
  have hB : Blk w9 p T #[.slice A m c] := ((hp.alloc _).drewN q).grown gr9 (fun e => hpo e.symm)
  have hlen : L.length = m := by have := h.1; rw [List.length_map] at this; omega
  have hb9 : Below base w w9 := Below.own (below_drewN ((Below.refl base w).alloc (by omega) _) q) gr9 ((h.alloc _)) (Nat.le_refl _) (by show base ≤ (w.alloc _).heap.size; simp; omega)
  refine ⟨hB, rfl, g9, m + 1, c9, hpg, by simp [hlen], hB.set_ 0 _, ?_, hb9.setCell hbp _⟩
  have own10 := own9.kept (w' := w9.setCell ⟨p, 0, none⟩ (.slice (some ⟨g9, 0, none⟩) (m + 1) c9)) (row := some p) ⟨rfl, rfl, rfl, by simp, fun k _ hk => heap_setCell_other w9 ⟨p, 0, none⟩ k _ (fun e => hk (by simp [e]))⟩ (.inr (by simp [Value.ownBlock]; exact fun e => hpg e.symm))
  rw [ints_snoc] at own10
  exact own10

set_option maxHeartbeats 2000000 in
set_option maxRecDepth 100000 in
theorem push_m (base p m c : Nat) (A : Option Addr) (x : Int) (T : TypeId) (L : List Int) (w : World) (hp : Blk w p T #[.slice A m c]) (h : w.ownsRow base 3 1 (.slice A m c) m (L.map (Value.int .i64))) (hbp : base ≤ p) (hpo : (Value.slice A m c).ownBlock ≠ some p) (hm : m ≤ 1000) :
    Calls Try.prog 104 #[.pointer (some ⟨p, 0, none⟩), .iface 3 (.int .i64 x)] w (Pushed base p T (L ++ [x]) w) := by
  obtain ⟨i1, hi1, hy0, hy1, hy2⟩ := info_parts' int_info
  have hU := Try.underlying81
  have cp := hp.cell0
  have fp := hp.frozen 0
  have hpl := hp.lt
  have Hp0 := hide hp
  have H := hide h
  have Rdx := hide ((Rd.one w 3 (Value.int .i64 x)).drewN 1)
  have Hpo := hide hpo
  have has := as_int (.int .i64 x)
  clear hp h hpo
  go_enter Try.func104, Try.ntmps104
  go_wp2_with fail
  go_region_law (first
    | (refine step_append_rd _ rfl (.tmp 7) (.tmp 10) _ rfl base 3 i1 _ 1 8 hU hi1 hy0 hy1 hy2 rfl (by omega) (.slice A m c) m (L.map (Value.int .i64)) rfl (by exact (H.out.alloc _).drew) (w.heap.size + 1) (some ⟨w.heap.size, 0, none⟩) 1 _ [Value.int .i64 x] rfl (by exact Rdx.out) (one_ints [x]) (by unfold maxLen; omega) (by omega) (by simp; omega) ?_
       intro v9 w9 own9 gr9 at9
       obtain ⟨g9, c9, rfl, hg9, hl9⟩ := own9.form (Nat.succ_pos m)
       obtain ⟨hB, hP⟩ := pushed_of (q := 1) Hp0.out H.out hbp Hpo.out own9 gr9 at9
       have cp9 := hB.cell0
       have fp9 := hB.frozen 0
       have HP := hide hP
       clear own9 gr9 at9 hP)
    | fail)
  all_goals
    go_wp2_with fail
    go_end0
    exact HP.out
end Go.Proofs.Ytfncmkmhdddmiaa
