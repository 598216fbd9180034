/- An argument that is a job, opened. No program. -/
import Derived.Test.YtimpmlmkhjeajaaZm
import Derived.Lib.SmallJoins
set_option linter.unusedVariables false
set_option linter.unusedSimpArgs false
namespace Go.Proofs.Ytimpmlmkhjeajaa
open Go.RowKit Go.ChangeShapes Go.WideShapes Go.Joins Go.Deep Go.WideElems Go.Maps

theorem job_open {H : Type} {enc : TypeId × Value → H} {P : Program} {w : World} {base : Nat} {spare : Nat → Bool} {held : Bool} {r : Reach} {b0 : Nat} {t es : TypeId} {f0 f1 f2 : Field} {v : Value} {d : DataW H} {p : List MemPlace} (hs : P.underlying t = some (.struct #[f0, f1, f2])) (hone : oneCellFields P #[f0, f1, f2] = true) (hC : P.cellsOf t = 3)
    (h0 : P.underlying f0.type = some (.int .i64)) (h1 : P.underlying f1.type = some (.slice es)) (h1s : P.underlying es = some .string) (h1c : P.cellsOf es = 1) (h2 : P.underlying f2.type = some (.int .i64))
    (hv : Value.okWide P w r b0 t v) (h : DataW.Trod enc P w base spare held t v d p) : ∃ (i j : Int) (A : Option Addr) (n c : Nat) (L : List ByteArray), v = .agg #[.int .i64 i, .slice A n c, .int .i64 j] ∧ Strs w w.heap.size A n L ∧ Small L ∧ n ≤ c ∧ n ≤ maxLen := by
  obtain ⟨c0, c1, c2, y0, y1, y2, m, rfl, _, _, g0, g1, g2⟩ := open_agg3 hs hone hC hv h
  obtain ⟨i, e0, _, _⟩ := DataW.trod_int h0 g0
  obtain ⟨j, e2, _, _⟩ := DataW.trod_int h2 g2
  injection e0 with e0
  injection e2 with e2
  subst e0 e2
  rcases open_strings h1 h1s h1c g1 with ⟨hcs, _⟩ | ⟨x, l, c', ss, hcs, _, hl, hm, hz, _, hcell, hws⟩
  · injection hcs with hcs
    subst hcs
    exact ⟨i, j, none, 0, 0, [], rfl, ⟨rfl, fun h => absurd h (by omega)⟩, fun _ h => absurd h (by simp), Nat.le_refl _, Nat.zero_le _⟩
  · injection hcs with hcs
    subst hcs
    exact ⟨i, j, some x, l, c', ss.take l, rfl, Strs.of_open (cap := ss.length) (by rw [hz]; split <;> omega) rfl hcell, fun s hs => hws s (List.mem_of_mem_take hs), hl, Nat.le_trans hl hm⟩
end Go.Proofs.Ytimpmlmkhjeajaa
