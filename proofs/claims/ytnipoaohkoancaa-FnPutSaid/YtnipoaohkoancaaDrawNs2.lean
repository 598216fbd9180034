/- DrawNamesValid, DrawNamesPut, DrawNamesDrop. -/
import Derived.Test.YtnipoaohkoancaaDrawNs
import Derived.Deep.RegionWith
set_option linter.unusedVariables false
set_option linter.unusedSimpArgs false
namespace Go.Proofs.Ytnipoaohkoancaa
open Go.RowKit

/-- Names were drawn. -/
def Drawn (w : World) (A : Option Addr) (n c : Nat) (L : List ByteArray) (w' : World) : Prop := Strs w' w'.heap.size A n L ∧ n ≤ c ∧ Short 13 L ∧ Below w.heap.size w w'
def DrawnL (w : World) (e : Ending) (w' : World) : Prop := ∃ A n c L, e = .returned (.slice A n c) ∧ Drawn w A n c L w'
def DrawnP (w : World) (e : Ending) (w' : World) : Prop := ∃ A n c L s, e = .returned (.tuple #[.slice A n c, .string s]) ∧ Drawn w A n c L w' ∧ s.size ≤ 5
theorem own_cap {w : World} {base : Nat} {e : TypeId} {size : Nat} {A : Option Addr} {n c m : Nat} {xs : List Value} (h : w.ownsRow base e size (.slice A n c) m xs) : n ≤ c ∧ c ≤ maxLen := by
  rcases h.2 with ⟨h1, _⟩ | ⟨g, cap, cur, h1, _, _, h2, h3, _⟩
  · injection h1 with _ h1 h2
    subst h1 h2
    exact ⟨Nat.le_refl _, Nat.zero_le _⟩
  · injection h1 with _ h1 h4
    subst h1 h4
    exact ⟨h2, h3⟩

set_option maxHeartbeats 1000000 in
theorem d_NamesValid (A : Option Addr) (n c : Nat) (w : World) (hc : Code w w.heap.size A n) (hnc : n ≤ c) (hn : n ≤ 1048576) :
    Calls Try.prog 27 #[.slice A n c] w fun e w' => DrawnL w e w' := by
  go_enter Try.func27, Try.ntmps27
  go_wp2_with fail
  refine (open_any A n c _ hc hnc hn).mono ?_
  rintro e w1 ⟨rfl, hr1, hb1⟩
  go_wp2_with fail
  refine (names_any w.heap.size 0 _ hr1 (by omega)).mono ?_
  rintro e w2 ⟨v, L, p2, rfl, ⟨A2, n2, c2, rfl, own2⟩, hsh, hp2, hr2, hb2⟩
  go_wp2_with fail
  go_ret
  exact ⟨A2, n2, c2, L, rfl, Strs.of_own own2, (own_cap own2).1, hsh, hb1.trans (hb2.below.mono (by have := hr1.lt; omega))⟩

set_option maxHeartbeats 1000000 in
theorem d_NamesPut (A : Option Addr) (n c : Nat) (w : World) (hc : Code w w.heap.size A n) (hnc : n ≤ c) (hn : n ≤ 1048576) :
    Calls Try.prog 15 #[.slice A n c] w fun e w' => DrawnP w e w' := by
  go_enter Try.func15, Try.ntmps15
  go_wp2_with fail
  refine (open_any A n c _ hc hnc hn).mono ?_
  rintro e w1 ⟨rfl, hr1, hb1⟩
  have hlt1 := hr1.lt
  go_wp2_with fail
  refine (names_any w.heap.size 0 _ hr1 (by omega)).mono ?_
  rintro e w2 ⟨v, L, p2, rfl, ⟨A2, n2, c2, rfl, own2⟩, hsh, hp2, hr2, hb2⟩
  go_wp2_with fail
  refine (name_any w.heap.size p2 _ hr2 (by omega)).mono ?_
  rintro e w3 ⟨⟨s, hs, rfl⟩, hr3, hb3⟩
  go_wp2_with fail
  go_ret2
  have hs2 := hb2.size
  exact ⟨A2, n2, c2, L, s, rfl, ⟨Strs.of_own (own_but own2 hb3 hlt1), (own_cap own2).1, hsh, hb1.trans ((hb2.below.mono (by omega)).trans (hb3.below.mono (by omega)))⟩, hs⟩

theorem pick_own (g p b n c base : Nat) (L : List ByteArray) (w : World) (hr : Rdr 54 w g p) (hp : p ≤ 1000000) (h1 : 1 ≤ n) (h2 : n ≤ 1000000) (own : w.ownsRow base 9 1 (.slice (some ⟨b, 0, none⟩) n c) n (L.map Value.string)) (hg : g < base) (hsh : Short 13 L) :
    Calls Try.prog 40 #[.pointer (some ⟨g, 0, none⟩), .int .i64 n] w.drew fun e w' => ∃ (k : Nat) (s : ByteArray), k < n ∧ e = .returned (.int .i64 k) ∧ s.size ≤ 5 ∧ s ∈ L ∧ w'.cell? ⟨b, k, none⟩ = some (.string s) ∧ w'.ownsRow base 9 1 (.slice (some ⟨b, 0, none⟩) n c) n (L.map Value.string) ∧ Rdr 54 w' g (p + 1) ∧ But w.heap.size g w w' := by
  refine (pick_any g p n w.drew (hr.drewN 1) hp h1 h2).mono fun e w' ⟨⟨k, hk, he⟩, hr', hb⟩ => ?_
  have own' := own_but own.drew hb hg
  have hl := own_len' own
  obtain ⟨s, hs⟩ : ∃ s, L[k]? = some s := ⟨L[k]'(by omega), List.getElem?_eq_getElem _⟩
  obtain ⟨g', off, e1, _, hc⟩ := (Strs.of_own own').2 (by omega)
  injection e1 with e1
  injection e1 with e1 e2
  subst e1 e2
  have hck := hc k s hs
  rw [Nat.zero_add] at hck
  exact ⟨k, s, hk, he, hsh.2 s (List.mem_of_getElem? hs), List.mem_of_getElem? hs, hck, own', hr', (But.of_below (below_drewN' _ w 1)).trans hb⟩

set_option maxHeartbeats 1000000 in
theorem d_NamesDrop (A : Option Addr) (n c : Nat) (w : World) (hc : Code w w.heap.size A n) (hnc : n ≤ c) (hn : n ≤ 1048576) :
    Calls Try.prog 22 #[.slice A n c] w fun e w' => DrawnP w e w' := by
  go_enter Try.func22, Try.ntmps22
  go_wp2_with fail
  refine (open_any A n c _ hc hnc hn).mono ?_
  rintro e w1 ⟨rfl, hr1, hb1⟩
  have hlt1 := hr1.lt
  go_wp2_with fail
  refine (names_any w.heap.size 0 _ hr1 (by omega)).mono ?_
  rintro e w2 ⟨v, L, p2, rfl, ⟨A2, n2, c2, rfl, own2⟩, hsh, hp2, hr2, hb2⟩
  have hs2 := hb2.size
  have hb12 : Below w.heap.size w w2 := hb1.trans (hb2.below.mono (by omega))
  have hl2 := own_len' own2
  have hcap := (own_cap own2).1
  have HL2 := hide hl2
  have hn13 : n2 ≤ 13 := by have := hsh.1; omega
  clear hl2
  by_cases h0 : n2 = 0
  · subst h0
    go_wp2_with fail
    refine (name_any w.heap.size p2 _ hr2 (by omega)).mono ?_
    rintro e w3 ⟨⟨s, hs, rfl⟩, hr3, hb3⟩
    go_wp2_with fail
    go_ret2
    exact ⟨A2, 0, c2, L, s, rfl, ⟨Strs.of_own (own_but own2 hb3 hlt1), hcap, hsh, hb12.trans (hb3.below.mono (by have := hb12.size; omega))⟩, hs⟩
  · go_wp2_with fail
    refine (pick_any w.heap.size p2 4 _ hr2 (by omega) (by omega) (by omega)).mono ?_
    rintro e w3 ⟨⟨k3, hk3, rfl⟩, hr3, hb3⟩
    have own3 := own_but own2 hb3 hlt1
    have hb13 : Below w.heap.size w w3 := hb12.trans (hb3.below.mono (by have := hb12.size; omega))
    clear own2 hb3 hb12 hr2
    by_cases hk0 : 0 < k3
    · obtain ⟨b, cap, hv, hbb, hlt⟩ := own3.form (by omega)
      injection hv with hv1 hv2 hv3
      subst hv1 hv3
      have hb13' := hide hb13
      clear hb13
      go_wp2_with fail
      go_region_with (go_at_call 40; refine (pick_own w.heap.size (p2 + 1) b n2 c2 _ L w3 hr3 (by omega) (by omega) (by omega) own3 hlt1 hsh).mono ?_; rintro e w4 ⟨k, s, hk, rfl, hs5, hsL, hck, own4, hr4, hb4⟩)
      go_wp2_with fail
      go_ret2
      exact ⟨some ⟨b, 0, none⟩, n2, c2, L, s, rfl, ⟨Strs.of_own own4, hcap, hsh, hb13'.out.trans (hb4.below.mono (by have := hb13'.out.size; omega))⟩, hs5⟩
    · go_wp2_with fail
      refine (name_any w.heap.size (p2 + 1) _ hr3 (by omega)).mono ?_
      rintro e w4 ⟨⟨s, hs, rfl⟩, hr4, hb4⟩
      go_wp2_with fail
      go_ret2
      exact ⟨A2, n2, c2, L, s, rfl, ⟨Strs.of_own (own_but own3 hb4 hlt1), hcap, hsh, hb13.trans (hb4.below.mono (by have := hb13.size; omega))⟩, hs⟩
end Go.Proofs.Ytnipoaohkoancaa
