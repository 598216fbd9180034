/- (*l6Rd).pick gives a number from 0 to m - 1 and moves the reader's place on. -/
import Derived.Test.YtmofnmklodmkmaaGreatDoorProg
import Derived.Test.YtmofnmklodmkmaaGreatDoorBase
import Derived.WalkKit
import Derived.LoopTactic
import Derived.Handy
import Derived.Deep.QuietTactic
import Derived.BigQuiet
import Derived.WalkLawsBesides
namespace Go.Proofs.YtmofnmklodmkmaaGreatDoor
open Go.RowKit

theorem wr_small (d : Nat) (h : d ≤ 1000000) : IntKind.i64.wrap (d : Int) = d := IntWalk.i64_in _ (by omega)
theorem w64_small (d : Nat) (h : d ≤ 1000000) : wrap64 (d : Int) = d := IntWalk.wrap64_in _ (by omega)
theorem quo_facts (p n : Nat) (hp : p ≤ 1000000) : ∃ d : Nat, IntKind.i64.wrap ((p : Int).tdiv n) = d ∧ IntKind.i64.wrap ((p : Int) / n) = d ∧ wrap64 ((p : Int) / n) = d ∧ d ≤ 1000000 := by
  have e : (p : Int).tdiv n = ((p / n : Nat) : Int) := by rw [Int.natCast_ediv]; exact Int.tdiv_eq_ediv_of_nonneg (by omega)
  have e2 : (p : Int) / n = ((p / n : Nat) : Int) := by rw [Int.natCast_ediv]
  have hle := Nat.div_le_self p n
  have hl : p / n ≤ 1000000 := by omega
  exact ⟨p / n, by rw [e, wr_small _ hl], by rw [e2, wr_small _ hl], by rw [e2, w64_small _ hl], hl⟩
theorem wsum (a b : Nat) (h : a + b ≤ 1000000000) : ∃ c : Nat, IntKind.i64.wrap ((a : Int) + b) = c ∧ c = a + b := ⟨a + b, by rw [IntWalk.i64_in _ (by omega)]; omega, rfl⟩
theorem pick_sums (p n u v : Nat) (hp : p ≤ 1000000) (hu : u < 256) (hv : v < 256) : ∃ b1 b2 b3 b4 b5 d b6 b7 : Nat,
    IntKind.i64.wrap ((v : Int) * 131) = b1 ∧ IntKind.i64.wrap ((u : Int) * 1117) = b2 ∧ IntKind.i64.wrap ((b1 : Int) + b2) = b3 ∧ IntKind.i64.wrap ((p : Int) * 29) = b4 ∧
    IntKind.i64.wrap ((b3 : Int) + b4) = b5 ∧ IntKind.i64.wrap ((p : Int).tdiv n) = d ∧ IntKind.i64.wrap ((p : Int) / n) = d ∧ wrap64 ((p : Int) / n) = d ∧ IntKind.i64.wrap ((d : Int) * 53) = b6 ∧ IntKind.i64.wrap ((b5 : Int) + b6) = b7 ∧ b7 ≤ 100000000 := by
  obtain ⟨b1, e1, l1⟩ : ∃ a : Nat, IntKind.i64.wrap ((v : Int) * 131) = a ∧ a ≤ 33405 := ⟨v * 131, by rw [IntWalk.i64_in _ (by omega)]; omega, by omega⟩
  obtain ⟨b2, e2, l2⟩ : ∃ a : Nat, IntKind.i64.wrap ((u : Int) * 1117) = a ∧ a ≤ 284835 := ⟨u * 1117, by rw [IntWalk.i64_in _ (by omega)]; omega, by omega⟩
  obtain ⟨b4, e4, l4⟩ : ∃ a : Nat, IntKind.i64.wrap ((p : Int) * 29) = a ∧ a ≤ 29000000 := ⟨p * 29, by rw [IntWalk.i64_in _ (by omega)]; omega, by omega⟩
  obtain ⟨b3, e3, l3⟩ := wsum b1 b2 (by omega)
  obtain ⟨b5, e5, l5⟩ := wsum b3 b4 (by omega)
  suffices H : ∃ d b6 b7 : Nat, IntKind.i64.wrap ((p : Int).tdiv n) = d ∧ IntKind.i64.wrap ((p : Int) / n) = d ∧ wrap64 ((p : Int) / n) = d ∧ IntKind.i64.wrap ((d : Int) * 53) = b6 ∧ IntKind.i64.wrap ((b5 : Int) + b6) = b7 ∧ b7 ≤ 100000000 from by
    obtain ⟨d, b6, b7, h⟩ := H
    exact ⟨b1, b2, b3, b4, b5, d, b6, b7, e1, e2, e3, e4, e5, h⟩
  clear e1 e2 e3 e4 e5
  obtain ⟨d, h1, h2, h3, h4⟩ := quo_facts p n hp
  suffices H : ∃ b6 b7 : Nat, IntKind.i64.wrap ((d : Int) * 53) = b6 ∧ IntKind.i64.wrap ((b5 : Int) + b6) = b7 ∧ b7 ≤ 100000000 from by
    obtain ⟨b6, b7, h⟩ := H
    exact ⟨d, b6, b7, h1, h2, h3, h⟩
  clear h1 h2 h3
  obtain ⟨b6, e6, l6⟩ : ∃ a : Nat, IntKind.i64.wrap ((d : Int) * 53) = a ∧ a ≤ 53000000 := ⟨d * 53, by rw [IntWalk.i64_in _ (by omega)]; omega, by omega⟩
  obtain ⟨b7, e7, l7⟩ := wsum b5 b6 (by omega)
  exact ⟨b6, b7, e6, e7, by omega⟩
theorem xor_rem (b m : Nat) (hb : b ≤ 100000000) (hm : 1 ≤ m) : In m (.returned (.int .i64 ((bits BinOp.xor .i64 (b : Int) ((b : Int) / 64)).tmod m))) := by
  have e : ((b : Int) / 64) = ((b / 64 : Nat) : Int) := by rw [Int.natCast_ediv]; rfl
  rw [e, i64_xor_nat _ _ (by omega) (by omega)]
  refine ⟨(b ^^^ (b / 64)) % m, Nat.mod_lt _ (by omega), ?_⟩
  rw [Int.natCast_emod, Int.tmod_eq_emod_of_nonneg (by omega)]

set_option maxHeartbeats 1000000 in
set_option maxRecDepth 100000 in
theorem pick_any (g p m : Nat) (w : World) (hr : Rdr 73 w g p) (hp : p ≤ 1000000) (hm : 1 ≤ m) (hm2 : m ≤ 1000000) :
    Calls Tryz.prog 41 #[.pointer (some ⟨g, 0, none⟩), .int .i64 m] w fun e w' => In m e ∧ Rdr 73 w' g (p + 1) ∧ But w.heap.size g w w' := by
  obtain ⟨A, n, c, hn, hnc, hcode, hb⟩ := hr
  have c0 : w.cell? ⟨g, 0, none⟩ = some (.slice A n c) := hb.cell 0
  have c1 : w.cell? ⟨g, 1, none⟩ = some (.int .i64 p) := hb.cell 1
  have f1 : w.frozen? ⟨g, 1, none⟩ = false := hb.frozen 1
  have hsz := hb.lt
  by_cases h0 : n = 0
  · subst h0
    go_enter Tryz.func41, Tryz.ntmps41
    go_wp2_with fail
    go_ret
    refine ⟨⟨0, by omega, rfl⟩, ?_, But.set_ _ _ _⟩
    exact ⟨A, 0, c, by omega, by omega, fun h => absurd h (by omega), by simpa using hb.set_ 1 (.int .i64 (p + 1))⟩
  · have hne : ((n : Int) == 0) = false := by simp; omega
    obtain ⟨cb, off, rfl, hcb, hcell⟩ := hcode (by omega)
    have hkeep : ∀ (u : Value), Rdr 73 (w.setCell ⟨g, 1, none⟩ (.int .i64 (p + 1))) g (p + 1) := fun _ => by
      refine ⟨some ⟨cb, off, none⟩, n, c, hn, hnc, fun _ => ⟨cb, off, rfl, hcb, fun j hj => ?_⟩, by simpa using hb.set_ 1 (.int .i64 (p + 1))⟩
      obtain ⟨v, hv, hx⟩ := hcell j hj
      exact ⟨v, hv, by rw [World.cell?_setCell_other _ _ _ _ (fun e => by injection e; omega)]; exact hx⟩
    by_cases hk : p < n
    · obtain ⟨v, hv, hx⟩ := hcell p hk
      have hx' : (w.setCell ⟨g, 1, none⟩ (.int .i64 (p + 1))).cell? ⟨cb, off + p, none⟩ = some (.int .u8 v) := by
        rw [World.cell?_setCell_other _ _ _ _ (fun e => by injection e; omega)]; exact hx
      go_enter Tryz.func41, Tryz.ntmps41
      go_wp2_with fail
      go_ret
      exact ⟨⟨v % m, Nat.mod_lt _ (by omega), by simp⟩, hkeep undef, But.set_ _ _ _⟩
    · obtain ⟨i, hi, hin⟩ : ∃ i : Nat, (p : Int).tmod n = i ∧ i < n := ⟨p % n, by rw [Int.natCast_emod]; exact Int.tmod_eq_emod_of_nonneg (by omega), Nat.mod_lt _ (by omega)⟩
      obtain ⟨v, hv, hx⟩ := hcell i hin
      have hx' : (w.setCell ⟨g, 1, none⟩ (.int .i64 (p + 1))).cell? ⟨cb, off + i, none⟩ = some (.int .u8 v) := by
        rw [World.cell?_setCell_other _ _ _ _ (fun e => by injection e; omega)]; exact hx
      obtain ⟨a1, ha1, hb1⟩ : ∃ a : Nat, IntKind.i64.wrap ((p : Int) * 7) = a ∧ a ≤ 7000000 := ⟨p * 7, by rw [IntWalk.i64_in _ (by omega)]; omega, by omega⟩
      obtain ⟨a2, ha2, hb2⟩ : ∃ a : Nat, IntKind.i64.wrap ((a1 : Int) + 3) = a ∧ a ≤ 7000003 := ⟨a1 + 3, by rw [IntWalk.i64_in _ (by omega)]; omega, by omega⟩
      obtain ⟨j, hj, hjn⟩ : ∃ j : Nat, (a2 : Int).tmod n = j ∧ j < n := ⟨a2 % n, by rw [Int.natCast_emod]; exact Int.tmod_eq_emod_of_nonneg (by omega), Nat.mod_lt _ (by omega)⟩
      obtain ⟨u, hu, hy⟩ := hcell j hjn
      have hy' : (w.setCell ⟨g, 1, none⟩ (.int .i64 (p + 1))).cell? ⟨cb, off + j, none⟩ = some (.int .u8 u) := by
        rw [World.cell?_setCell_other _ _ _ _ (fun e => by injection e; omega)]; exact hy
      obtain ⟨b1, b2, b3, b4, b5, d, b6, b7, hb1', hb2', hb3', hb4', hb5', hd, hd', hd2, hb6', hb7', hc7⟩ := pick_sums p n u v hp hu hv
      go_enter Tryz.func41, Tryz.ntmps41
      go_wp2_with fail
      go_quiet (fail)
      go_wp2_with fail
      go_ret
      refine ⟨?_, (hkeep undef).drewN nq, (But.set_ _ _ _).drewN nq⟩
      exact xor_rem b7 m hc7 hm
end Go.Proofs.YtmofnmklodmkmaaGreatDoor
