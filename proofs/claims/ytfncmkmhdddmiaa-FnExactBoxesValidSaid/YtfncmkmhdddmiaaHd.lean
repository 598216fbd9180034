/- container/heap over the heap of a box: down. -/
import Derived.Test.YtfncmkmhdddmiaaHu
set_option linter.unusedVariables false
set_option linter.unusedSimpArgs false
namespace Go.Proofs.Ytfncmkmhdddmiaa
open Go.RowKit Go.BigFrame

theorem DnI.leaf {L : List Int} {n i : Nat} (h : DnI L n i) (hn : n ≤ 2 * i + 1) : Hpn L n := fun k a b h0 hk ha hb => h.1 k a b h0 hk (by omega) ha hb
/-- Behind the way down. -/
def Downed (base g m c n : Nat) (L : List Int) (w : World) (e : Ending) (w' : World) : Prop := ∃ (t : Bool) (M : List Int), e = .returned (.bool t) ∧ Hpn M n ∧ DnS L M n ∧ Row w' base g m c M ∧ w.grownBy w' (some g)

set_option maxHeartbeats 4000000 in
set_option maxRecDepth 100000 in
theorem down_any (base p g m c n : Nat) (z : Int) (T : TypeId) (L : List Int) (w : World) (hz : z = (n : Int)) (hp : Blk w p T #[.slice (some ⟨g, 0, none⟩) m c]) (hpg : p ≠ g) (h : Row w base g m c L) (hn : n < m) (hu : DnI L n 0) (hm : m ≤ 1000) :
    Calls Try.prog 81 #[.iface 60 (.pointer (some ⟨p, 0, none⟩)), .int .i64 0, .int .i64 z] w (Downed base g m c n L w) := by
  subst hz
  have Hp0 := hide hp
  have H := hide h
  have HU := hide hu
  clear hp h hu
  go_enter Try.func81, Try.ntmps81
  go_wp2_with fail
  go_loopw [7, 8, 9, 10] (fun i' _ _ _ wr => ∃ (k : Nat) (M : List Int), k ≤ n ∧ i' = .int .i64 k ∧ Hid (DnI M n k) ∧ Hid (DnS L M n) ∧ Hid (Row wr base g m c M) ∧ Hid (w.grownBy wr (some g))) (fun i' _ _ _ _ => n - (intOf i').toNat)
  case atStart => exact ⟨0, L, Nat.zero_le _, rfl, HU.out, DnS.refl _ _, H.out, World.grownBy.refl _ _⟩
  case round =>
    obtain ⟨k, M, hk, rfl, hu, hq, hrow, hgr⟩ := hrel
    have hlen := hide hrow.out.len
    by_cases hle : n ≤ 2 * k + 1
    · have HD : Hid (Hpn M n) := hu.out.leaf hle
      have hle' : (n : Int) ≤ 2 * (k : Int) + 1 := by omega
      go_wp2_with fail
      go_ret
      exact ⟨_, M, rfl, HD.out, hq.out, hrow.out, hgr.out⟩
    · have hlt1 : 2 * (k : Int) + 1 < (n : Int) := by omega
      obtain ⟨x, HX⟩ : ∃ x, Hid (M[k]? = some x) := ⟨M[k]'(by have := hlen.out; omega), List.getElem?_eq_getElem _⟩
      obtain ⟨y, HY⟩ : ∃ y, Hid (M[2 * k + 1]? = some y) := ⟨M[2 * k + 1]'(by have := hlen.out; omega), List.getElem?_eq_getElem _⟩
      by_cases h2 : 2 * k + 2 < n
      · have h2' : 2 * (k : Int) + 1 + 1 < (n : Int) := by omega
        obtain ⟨y2, HY2⟩ : ∃ y2, Hid (M[2 * k + 2]? = some y2) := ⟨M[2 * k + 2]'(by have := hlen.out; omega), List.getElem?_eq_getElem _⟩
        have hmr := m_less 216 p _ wr ((Hp0.out.grown hgr.out (by simp [hpg])).cell0)
        by_cases hyy : y < y2
        · have Hyy : Hid (decide (y < y2) = true) := by show decide (y < y2) = true; simp [hyy]
          have HC : Hid (∀ kk a, 0 < kk → kk < n → (kk - 1) / 2 = k → M[kk]? = some a → a ≤ y2) := fun kk a h0 h1 h3 h4 => by
            by_cases e : kk = 2 * k + 1
            · subst e; have := HY.out; rw [h4] at this; injection this with this; omega
            · have e2 : kk = 2 * k + 2 := by omega
              subst e2; have := HY2.out; rw [h4] at this; injection this with this; omega
          clear hyy
          go_wp2_with fail
          refine (h_less_t base g m c (2 * k + 2) (2 * k + 1) _ _ y2 y M true wr hrow.out HY2.out HY.out hm (by omega) (by omega) Hyy.out).mono ?_
          rintro e w5 ⟨rfl, q5, e5⟩
          have Hr5 : Hid (Row w5 base g m c M) := by show Row _ _ _ _ _ _; rw [e5]; exact hrow.out.drewN q5
          have Hg5 : Hid (w.grownBy w5 (some g)) := by show w.grownBy _ _; rw [e5]; exact hgr.out.trans (grown_drewN _ _ _)
          clear e5
          have hx0 := HX.out
          have hy0 := HY2.out
          have hmw5 := m_less 216 p _ w5 ((Hp0.out.grown Hg5.out (by simp [hpg])).cell0)
          by_cases hlt : x < y2
          · have Hlt : Hid (decide (x < y2) = true) := by show decide (x < y2) = true; simp [hlt]
            have HS : Hid (DnI (sw M k (2 * k + 2) x y2) n (2 * k + 2)) := hu.out.step (by omega) (by omega) (by omega) hx0 hy0 hlt HC.out
            have HQ : Hid (DnS L (sw M k (2 * k + 2) x y2) n) := hq.out.step hx0 hy0 (by omega) (by omega)
            clear hx0 hy0 hlt
            go_wp2_with fail
            refine (h_less_t base g m c (2 * k + 2) k _ _ y2 x M true w5 Hr5.out HY2.out HX.out hm (by omega) (by omega) Hlt.out).mono ?_
            rintro e w6 ⟨rfl, q6, e6⟩
            have Hr6 : Hid (Row w6 base g m c M) := by show Row _ _ _ _ _ _; rw [e6]; exact Hr5.out.drewN q6
            have Hg6 : Hid (w.grownBy w6 (some g)) := by show w.grownBy _ _; rw [e6]; exact Hg5.out.trans (grown_drewN _ _ _)
            have hsw6 := m_swap 216 p _ w6 ((Hp0.out.grown Hg6.out (by simp [hpg])).cell0)
            clear e6
            go_wp2_with fail
            refine (h_swap_t base g m c k (2 * k + 2) _ _ x y2 M w6 Hr6.out HX.out HY2.out hm (by omega) (by omega)).mono ?_
            rintro e w7 ⟨rfl, hr7, hg7⟩
            have Hr7 := hide hr7
            have Hg7 := hide (Hg6.out.trans hg7)
            clear hr7 hg7
            go_wp2_with fail
            go_roundw
            case rel => exact ⟨2 * k + 2, _, by omega, by go_num, HS.out, HQ.out, Hr7.out, Hg7.out⟩
            case measure => simp [intOf]; omega
          · have Hlt : Hid (decide (x < y2) = false) := by show decide (x < y2) = false; simp; omega
            have HD : Hid (Hpn M n) := hu.out.done hx0 (fun kk a h0 h1 h2 h3 => by have := HC.out kk a h0 h1 h2 h3; omega)
            clear hx0 hy0 hlt
            go_wp2_with fail
            refine (h_less_t base g m c (2 * k + 2) k _ _ y2 x M false w5 Hr5.out HY2.out HX.out hm (by omega) (by omega) Hlt.out).mono ?_
            rintro e w6 ⟨rfl, q6, rfl⟩
            go_wp2_with fail
            go_ret
            exact ⟨_, M, rfl, HD.out, hq.out, Hr5.out.drewN q6, Hg5.out.trans (grown_drewN _ _ _)⟩
        · have Hyy : Hid (decide (y < y2) = false) := by show decide (y < y2) = false; simp; omega
          have HC : Hid (∀ kk a, 0 < kk → kk < n → (kk - 1) / 2 = k → M[kk]? = some a → a ≤ y) := fun kk a h0 h1 h3 h4 => by
            by_cases e : kk = 2 * k + 1
            · subst e; have := HY.out; rw [h4] at this; injection this with this; omega
            · have e2 : kk = 2 * k + 2 := by omega
              subst e2; have := HY2.out; rw [h4] at this; injection this with this; omega
          clear hyy
          go_wp2_with fail
          refine (h_less_t base g m c (2 * k + 2) (2 * k + 1) _ _ y2 y M false wr hrow.out HY2.out HY.out hm (by omega) (by omega) Hyy.out).mono ?_
          rintro e w5 ⟨rfl, q5, e5⟩
          have Hr5 : Hid (Row w5 base g m c M) := by show Row _ _ _ _ _ _; rw [e5]; exact hrow.out.drewN q5
          have Hg5 : Hid (w.grownBy w5 (some g)) := by show w.grownBy _ _; rw [e5]; exact hgr.out.trans (grown_drewN _ _ _)
          clear e5
          have hx0 := HX.out
          have hy0 := HY.out
          have hmw5 := m_less 216 p _ w5 ((Hp0.out.grown Hg5.out (by simp [hpg])).cell0)
          by_cases hlt : x < y
          · have Hlt : Hid (decide (x < y) = true) := by show decide (x < y) = true; simp [hlt]
            have HS : Hid (DnI (sw M k (2 * k + 1) x y) n (2 * k + 1)) := hu.out.step (by omega) (by omega) (by omega) hx0 hy0 hlt HC.out
            have HQ : Hid (DnS L (sw M k (2 * k + 1) x y) n) := hq.out.step hx0 hy0 (by omega) (by omega)
            clear hx0 hy0 hlt
            go_wp2_with fail
            refine (h_less_t base g m c (2 * k + 1) k _ _ y x M true w5 Hr5.out HY.out HX.out hm (by omega) (by omega) Hlt.out).mono ?_
            rintro e w6 ⟨rfl, q6, e6⟩
            have Hr6 : Hid (Row w6 base g m c M) := by show Row _ _ _ _ _ _; rw [e6]; exact Hr5.out.drewN q6
            have Hg6 : Hid (w.grownBy w6 (some g)) := by show w.grownBy _ _; rw [e6]; exact Hg5.out.trans (grown_drewN _ _ _)
            have hsw6 := m_swap 216 p _ w6 ((Hp0.out.grown Hg6.out (by simp [hpg])).cell0)
            clear e6
            go_wp2_with fail
            refine (h_swap_t base g m c k (2 * k + 1) _ _ x y M w6 Hr6.out HX.out HY.out hm (by omega) (by omega)).mono ?_
            rintro e w7 ⟨rfl, hr7, hg7⟩
            have Hr7 := hide hr7
            have Hg7 := hide (Hg6.out.trans hg7)
            clear hr7 hg7
            go_wp2_with fail
            go_roundw
            case rel => exact ⟨2 * k + 1, _, by omega, by go_num, HS.out, HQ.out, Hr7.out, Hg7.out⟩
            case measure => simp [intOf]; omega
          · have Hlt : Hid (decide (x < y) = false) := by show decide (x < y) = false; simp; omega
            have HD : Hid (Hpn M n) := hu.out.done hx0 (fun kk a h0 h1 h2 h3 => by have := HC.out kk a h0 h1 h2 h3; omega)
            clear hx0 hy0 hlt
            go_wp2_with fail
            refine (h_less_t base g m c (2 * k + 1) k _ _ y x M false w5 Hr5.out HY.out HX.out hm (by omega) (by omega) Hlt.out).mono ?_
            rintro e w6 ⟨rfl, q6, rfl⟩
            go_wp2_with fail
            go_ret
            exact ⟨_, M, rfl, HD.out, hq.out, Hr5.out.drewN q6, Hg5.out.trans (grown_drewN _ _ _)⟩
      · have h2' : ¬ (2 * (k : Int) + 1 + 1 < (n : Int)) := by omega
        have HC : Hid (∀ kk a, 0 < kk → kk < n → (kk - 1) / 2 = k → M[kk]? = some a → a ≤ y) := fun kk a h0 h1 h3 h4 => by
          have e : kk = 2 * k + 1 := by omega
          subst e; have := HY.out; rw [h4] at this; injection this with this; omega
        have hx0 := HX.out
        have hy0 := HY.out
        have hmwr := m_less 216 p _ wr ((Hp0.out.grown hgr.out (by simp [hpg])).cell0)
        by_cases hlt : x < y
        · have Hlt : Hid (decide (x < y) = true) := by show decide (x < y) = true; simp [hlt]
          have HS : Hid (DnI (sw M k (2 * k + 1) x y) n (2 * k + 1)) := hu.out.step (by omega) (by omega) (by omega) hx0 hy0 hlt HC.out
          have HQ : Hid (DnS L (sw M k (2 * k + 1) x y) n) := hq.out.step hx0 hy0 (by omega) (by omega)
          clear hx0 hy0 hlt
          go_wp2_with fail
          refine (h_less_t base g m c (2 * k + 1) k _ _ y x M true wr hrow.out HY.out HX.out hm (by omega) (by omega) Hlt.out).mono ?_
          rintro e w6 ⟨rfl, q6, e6⟩
          have Hr6 : Hid (Row w6 base g m c M) := by show Row _ _ _ _ _ _; rw [e6]; exact hrow.out.drewN q6
          have Hg6 : Hid (w.grownBy w6 (some g)) := by show w.grownBy _ _; rw [e6]; exact hgr.out.trans (grown_drewN _ _ _)
          have hsw6 := m_swap 216 p _ w6 ((Hp0.out.grown Hg6.out (by simp [hpg])).cell0)
          clear e6
          go_wp2_with fail
          refine (h_swap_t base g m c k (2 * k + 1) _ _ x y M w6 Hr6.out HX.out HY.out hm (by omega) (by omega)).mono ?_
          rintro e w7 ⟨rfl, hr7, hg7⟩
          have Hr7 := hide hr7
          have Hg7 := hide (Hg6.out.trans hg7)
          clear hr7 hg7
          go_wp2_with fail
          go_roundw
          case rel => exact ⟨2 * k + 1, _, by omega, by go_num, HS.out, HQ.out, Hr7.out, Hg7.out⟩
          case measure => simp [intOf]; omega
        · have Hlt : Hid (decide (x < y) = false) := by show decide (x < y) = false; simp; omega
          have HD : Hid (Hpn M n) := hu.out.done hx0 (fun kk a h0 h1 h2 h3 => by have := HC.out kk a h0 h1 h2 h3; omega)
          clear hx0 hy0 hlt
          go_wp2_with fail
          refine (h_less_t base g m c (2 * k + 1) k _ _ y x M false wr hrow.out HY.out HX.out hm (by omega) (by omega) Hlt.out).mono ?_
          rintro e w6 ⟨rfl, q6, rfl⟩
          go_wp2_with fail
          go_ret
          exact ⟨_, M, rfl, HD.out, hq.out, hrow.out.drewN q6, hgr.out.trans (grown_drewN _ _ _)⟩
end Go.Proofs.Ytfncmkmhdddmiaa
