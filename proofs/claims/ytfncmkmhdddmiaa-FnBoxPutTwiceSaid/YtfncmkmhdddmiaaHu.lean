/- container/heap over the heap of a box: up. -/
import Derived.Test.YtfncmkmhdddmiaaHm
set_option linter.unusedVariables false
set_option linter.unusedSimpArgs false
namespace Go.Proofs.Ytfncmkmhdddmiaa
open Go.RowKit Go.BigFrame

set_option maxRecDepth 100000 in
theorem m_val (k p : Nat) (v : Value) (name : String) (f : FuncId) (w : World) (h : w.cell? ⟨p, 0, none⟩ = some v)
    (hf : (Try.t60.methods.find? (fun x => x.name == name)).map (fun m => (m.path.toList, m.func)) = some ([], some (f, false))) :
    (method (k + 1) 60 (.pointer (some ⟨p, 0, none⟩)) name).run Try.prog w = .ok (f, v) w := by
  unfold method
  simp only [Sem.run_bind]
  go_simp
  rw [Option.map_eq_some_iff] at hf
  obtain ⟨m, h1, h2⟩ := hf
  injection h2 with h2 h3
  rw [h1]
  simp only [h2, h3, follow]
  generalize (if m.path = #[] then some ((name.splitOn ".").getLast?.getD name) else none) = o
  unfold receiverAt
  have hg : ∀ w, (Place.get 60 (Place.val (Value.pointer (some ⟨p, 0, none⟩)))).run Try.prog w = .ok (Value.pointer (some ⟨p, 0, none⟩)) w := fun _ => rfl
  have hc : ∀ (s : String) w, (Builtin.ssaWrapNilChk_ #[60] 60 #[Value.pointer (some ⟨p, 0, none⟩), strVal "", strVal s]).run Try.prog w = .ok (Value.pointer (some ⟨p, 0, none⟩)) w := fun _ _ => rfl
  cases o
  · go_simp
  · go_simp
theorem m_len (k p : Nat) (v : Value) (w : World) (h : w.cell? ⟨p, 0, none⟩ = some v) :
    (method (k + 1) 60 (.pointer (some ⟨p, 0, none⟩)) "Len").run Try.prog w = .ok (71, v) w := m_val k p v "Len" _ w h (by kernel_rfl)
theorem m_less (k p : Nat) (v : Value) (w : World) (h : w.cell? ⟨p, 0, none⟩ = some v) :
    (method (k + 1) 60 (.pointer (some ⟨p, 0, none⟩)) "Less").run Try.prog w = .ok (102, v) w := m_val k p v "Less" _ w h (by kernel_rfl)
theorem m_swap (k p : Nat) (v : Value) (w : World) (h : w.cell? ⟨p, 0, none⟩ = some v) :
    (method (k + 1) 60 (.pointer (some ⟨p, 0, none⟩)) "Swap").run Try.prog w = .ok (105, v) w := m_val k p v "Swap" _ w h (by kernel_rfl)

/-- Behind the way up. -/
def Upped (base g m c : Nat) (L : List Int) (w : World) (e : Ending) (w' : World) : Prop := e = .returned (.tuple #[]) ∧ ∃ M, Hp M ∧ M.Perm L ∧ Row w' base g m c M ∧ w.grownBy w' (some g)

set_option maxHeartbeats 2000000 in
set_option maxRecDepth 100000 in
theorem up_any (base p g m c j : Nat) (z : Int) (T : TypeId) (L : List Int) (w : World) (hz : z = (j : Int)) (hp : Blk w p T #[.slice (some ⟨g, 0, none⟩) m c]) (hpg : p ≠ g) (h : Row w base g m c L) (hj : j < m) (hu : UpI L j) (hm : m ≤ 1000) :
    Calls Try.prog 70 #[.iface 60 (.pointer (some ⟨p, 0, none⟩)), .int .i64 z] w (Upped base g m c L w) := by
  subst hz
  have Hp0 := hide hp
  have H := hide h
  have HU := hide hu
  clear hp h hu
  go_enter Try.func70, Try.ntmps70
  go_wp2_with fail
  go_loopw [1, 4] (fun j' _ wr => ∃ (k : Nat) (M : List Int), k ≤ j ∧ j' = .int .i64 k ∧ Hid (UpI M k) ∧ Hid (M.Perm L) ∧ Hid (Row wr base g m c M) ∧ Hid (w.grownBy wr (some g))) (fun j' _ _ => (intOf j').toNat)
  case atStart => exact ⟨j, L, Nat.le_refl _, rfl, HU.out, List.Perm.refl _, H.out, World.grownBy.refl _ _⟩
  case round =>
    obtain ⟨k, M, hk, rfl, hu, hpm, hrow, hgr⟩ := hrel
    have Hpr := hide ((Hp0.out.grown hgr.out (by simp [hpg])).cell0)
    have hlen := hide hrow.out.len
    rcases k with _ | k
    · have HD : Hid (Hp M) := hu.out.top
      go_wp2_with fail
      go_end0
      exact ⟨rfl, M, HD.out, hpm.out, hrow.out, hgr.out⟩
    · obtain ⟨x, hx⟩ : ∃ x, M[k + 1]? = some x := ⟨M[k + 1]'(by have := hlen.out; omega), List.getElem?_eq_getElem _⟩
      obtain ⟨y, hy⟩ : ∃ y, M[k / 2]? = some y := ⟨M[k / 2]'(by have := hlen.out; omega), List.getElem?_eq_getElem _⟩
      have hne : ((k : Int) / 2 == (k : Int) + 1) = false := by simp; omega
      have hml1 := m_less 216 p _ wr Hpr.out
      have Hx := hide hx
      have Hy := hide hy
      by_cases hlt : y < x
      · have Hlt : Hid (decide (y < x) = true) := by show decide (y < x) = true; simp [hlt]
        have HS : Hid (UpI (sw M (k / 2) (k + 1) y x) (k / 2)) := hu.out.step (Nat.succ_pos _) hx hy hlt
        have HM : Hid ((sw M (k / 2) (k + 1) y x).Perm L) := (sw_perm hy hx).trans hpm.out
        clear hx hy hlt
        go_wp2_with fail
        refine (h_less_t base g m c (k + 1) (k / 2) _ _ x y M true wr hrow.out Hx.out Hy.out hm (by omega) (by omega) Hlt.out).mono ?_
        rintro e w6 ⟨rfl, q, e6⟩
        have Hr6 : Hid (Row w6 base g m c M) := by show Row _ _ _ _ _ _; rw [e6]; exact hrow.out.drewN q
        have Hg6 : Hid (w.grownBy w6 (some g)) := by show w.grownBy _ _; rw [e6]; exact hgr.out.trans (grown_drewN _ _ _)
        have hsw6 := m_swap 216 p _ w6 ((Hp0.out.grown Hg6.out (by simp [hpg])).cell0)
        clear e6
        go_wp2_with fail
        refine (h_swap_t base g m c (k / 2) (k + 1) _ _ y x M w6 Hr6.out Hy.out Hx.out hm (by omega) (by omega)).mono ?_
        rintro e w7 ⟨rfl, hr7, hg7⟩
        have Hr7 := hide hr7
        have Hg7 := hide (Hg6.out.trans hg7)
        clear hr7 hg7
        go_wp2_with fail
        go_roundw
        case rel => exact ⟨k / 2, _, by omega, by go_num, HS.out, HM.out, Hr7.out, Hg7.out⟩
        case measure => simp [intOf]; omega
      · have Hlt : Hid (decide (y < x) = false) := by show decide (y < x) = false; simp; omega
        have HD : Hid (Hp M) := hu.out.done hx hy (by omega)
        clear hx hy hlt
        go_wp2_with fail
        refine (h_less_t base g m c (k + 1) (k / 2) _ _ x y M false wr hrow.out Hx.out Hy.out hm (by omega) (by omega) Hlt.out).mono ?_
        rintro e w6 ⟨rfl, q, rfl⟩
        go_wp2_with fail
        go_end0
        exact ⟨rfl, M, HD.out, hpm.out, hrow.out.drewN q, hgr.out.trans (grown_drewN _ _ _)⟩
end Go.Proofs.Ytfncmkmhdddmiaa
