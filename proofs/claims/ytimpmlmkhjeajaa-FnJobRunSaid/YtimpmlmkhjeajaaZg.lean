/- Texts joined: DrawNs, DrawJ, DrawJ3. -/
import Derived.Test.YtimpmlmkhjeajaaZb
import Derived.Test.YtimpmlmkhjeajaaZc
import Derived.Test.YtimpmlmkhjeajaaZe
import Derived.Deep.RegionWith
import Derived.IntWalk
import Derived.Test.YtimpmlmkhjeajaaZf

/- Drawing names: l91Names, DrawNamesValid, DrawNamesPut, DrawNamesDrop. -/
set_option linter.unusedVariables false
set_option linter.unusedSimpArgs false
namespace Go.Proofs.Ytimpmlmkhjeajaa
open Go.RowKit

/-- The loop of l91Names behind k rounds. -/
def NamesAt (W : World) (g p k : Nat) (v : Value) (m : Nat) (wr : World) : Prop :=
  ∃ (L : List ByteArray) (p' : Nat), wr.ownsRow W.heap.size 9 1 v m (L.map Value.string) ∧ v.ownBlock ≠ some (W.heap.size + 1) ∧ Short k L ∧ p' ≤ p + 1 + k ∧ Rdr 125 wr g p' ∧ But W.heap.size g W wr ∧ Lit wr (W.heap.size + 1) 10 ∧ W.heap.size + 1 < wr.heap.size

theorem names_step {W w3 w4 : World} {g p p' k m : Nat} {v v4 : Value} {L : List ByteArray} {s : ByteArray}
    (own4 : w4.ownsRow W.heap.size 9 1 v4 (m + 1) (L.map Value.string ++ [Value.string s])) (gr4 : (w3.alloc (.cells #[Value.string s] 9)).grownBy w4 v.ownBlock)
    (at4 : v4.ownBlock = v.ownBlock ∨ v4.ownBlock = some (w3.alloc (.cells #[Value.string s] 9)).heap.size) (hown : w3.ownsRow W.heap.size 9 1 v m (L.map Value.string)) (hne : v.ownBlock ≠ some (W.heap.size + 1))
    (hsh : Short k L) (hs5 : s.size ≤ 5) (hr : Rdr 125 w3 g p') (hb : But W.heap.size g W w3) (hlit : Lit w3 (W.heap.size + 1) 10) (hs3 : W.heap.size + 1 < w3.heap.size) (hg : g < W.heap.size) (hp : p' ≤ p + 1 + (k + 1)) :
    NamesAt W g p (k + 1) v4 (m + 1) w4 := by
  refine ⟨L ++ [s], p', by rw [List.map_append]; exact own4, ?_, hsh.snoc hs5, hp, (hr.alloc _).own gr4 (hown.alloc _) hg, (hb.alloc hb.size _).own gr4 (hown.alloc _) (Nat.le_refl _) (by simp; have := hb.size; omega), ?_, ?_⟩
  · rcases at4 with e | e
    · rw [e]; exact hne
    · rw [e]; intro h; simp at h; omega
  · obtain ⟨cs, h1, h2, h3⟩ := hlit
    exact ⟨cs, (h1.alloc _).own gr4 hne, h2, h3⟩
  · have := gr4.size; simp at this; omega

set_option maxHeartbeats 3000000 in
set_option maxRecDepth 100000 in
theorem names_any (g p : Nat) (w : World) (hr : Rdr 125 w g p) (hp : p ≤ 900000) :
    Calls Try.prog 105 #[.pointer (some ⟨g, 0, none⟩)] w fun e w' => ∃ v L p', e = .returned v ∧ OwnL w.heap.size w' v L ∧ Short 13 L ∧ p' ≤ p + 12 ∧ Rdr 125 w' g p' ∧ But w.heap.size g w w' := by
  obtain ⟨i0, hi0, hz0, hz1, hz2⟩ := info_parts str_info
  have hU := Try.underlying26
  have hg := hr.lt
  go_enter Try.func105, Try.ntmps105
  go_wp2_with fail
  with_reducible refine (pick_lit g p 16 (w.heap.size + 1) 10 _ _ _ (by omega) ((hr.alloc _).alloc _) (by omega) (by omega) (by omega) (by have h := Blk.new (w.alloc (.cells #[] 9)) 9; rw [World.size_alloc] at h; exact h _) (by omega) ?hn ?hs).mono ?_
  case hn => rfl
  case hs => rfl
  rintro e w1 ⟨⟨k0, hk0, rfl⟩, hr1, hbut1, hlit1⟩
  have hsz : w.heap.size + 2 ≤ w1.heap.size := by have := hbut1.size; simp at this; omega
  have hb1 : But w.heap.size g w w1 := (((But.refl _ _ _).alloc (Nat.le_refl _) _).alloc (by simp) _).trans (hbut1.mono (by simp; omega))
  go_wp2_with fail
  generalize ((k0 : Int) == 0) = full
  go_loopw [3, 6] (fun v i wr => ∃ (k m : Nat), k ≤ 10 ∧ i = .int .i64 k ∧ NamesAt w g p k v m wr) (fun _ i _ => 10 - (intOf i).toNat)
  case atStart =>
    exact ⟨0, 0, by omega, rfl, [], p + 1, own_but ((World.ownsRow_lit w #[] 0 (Nat.le_refl _) (Nat.zero_le _) rfl).alloc _) hbut1 hg, by simp [Value.ownBlock], ⟨by simp, by simp⟩, by omega, hr1, hb1, hlit1, by omega⟩
  case round =>
    obtain ⟨k, m, hk, rfl, L, p', hown, hne, hsh, hp', hr2, hbut, hlit, hs2⟩ := hrel
    have hm := own_len' hown
    have b1 : m + 1 ≤ maxLen := by have := hsh.1; unfold maxLen; omega
    have b2 : (m + 1) * 16 ≤ 140737488355328 := by have := hsh.1; omega
    by_cases hlt : k < 10
    · obtain ⟨s, hs5, hck⟩ := hlit.cell hlt
      cases full
      · go_wp2_with fail
        refine (pick_any g p' 3 _ hr2 (by omega) (by omega) (by omega)).mono ?_
        rintro e w3 ⟨⟨k3, hk3, rfl⟩, hr3, hbut3⟩
        have hown3 := own_but hown hbut3 hg
        have hlit3 : Lit w3 (w.heap.size + 1) 10 := hlit.but hbut3 (by omega)
        have hck3 : w3.cell? ⟨w.heap.size + 1, k, none⟩ = some (.string s) := (World.cell?_of_block (a := ⟨w.heap.size + 1, k, none⟩) (hbut3.block (w.heap.size + 1) hs2 (by omega))).trans hck
        have hb3 : But w.heap.size g w w3 := hbut.trans (hbut3.mono hbut.size)
        have hs3 : w.heap.size + 1 < w3.heap.size := by have := hbut3.size; omega
        clear hck hbut3
        go_wp2_with (
            (at_builtin
             refine wpList_append_rd _ rfl (.tmp 24) (.tmp 29) _ rfl w.heap.size 9 i0 _ 1 16 hU hi0 hz0 hz1 hz2 rfl (by omega) u3 m (L.map Value.string) rfl (hown3.alloc _) (w3.heap.size + 1) (some ⟨w3.heap.size, 0, none⟩) 1 _ [Value.string s] rfl (Rd.one _ _ _) (one_strs [s]) b1 b2 (by simp; omega) ?_
             intro v4 w4 own4 gr4 at4
             have hrest : NamesAt w g p (k + 1) v4 (m + 1) w4 := names_step own4 gr4 at4 hown3 hne hsh hs5 hr3 hb3 hlit3 hs3 hg (by omega)
             clear gr4 at4 own4))
        · go_roundw
          case rel => exact ⟨k + 1, m + 1, by omega, by go_num, hrest⟩
          case measure => simp [intOf]; omega
        · go_roundw
          case rel => exact ⟨k + 1, m, by omega, by go_num, L, _, hown3, hne, hsh.more (by omega), by omega, hr3, hb3, hlit3, hs3⟩
          case measure => simp [intOf]; omega
      · go_wp2_with (
            (at_builtin
             refine wpList_append_rd _ rfl (.tmp 24) (.tmp 29) _ rfl w.heap.size 9 i0 _ 1 16 hU hi0 hz0 hz1 hz2 rfl (by omega) u3 m (L.map Value.string) rfl (hown.alloc _) (wr.heap.size + 1) (some ⟨wr.heap.size, 0, none⟩) 1 _ [Value.string s] rfl (Rd.one _ _ _) (one_strs [s]) b1 b2 (by simp; omega) ?_
             intro v4 w4 own4 gr4 at4
             have hrest : NamesAt w g p (k + 1) v4 (m + 1) w4 := names_step own4 gr4 at4 hown hne hsh hs5 hr2 hbut hlit hs2 hg (by omega)
             clear gr4 at4 own4))
        go_roundw
        case rel => exact ⟨k + 1, m + 1, by omega, by go_num, hrest⟩
        case measure => simp [intOf]; omega
    · go_wp2_with fail
      refine (pick_any g p' 40 _ hr2 (by omega) (by omega) (by omega)).mono ?_
      rintro e w3 ⟨⟨k3, hk3, rfl⟩, hr3, hbut3⟩
      have hown3 := own_but hown hbut3 hg
      have hb3 : But w.heap.size g w w3 := hbut.trans (hbut3.mono hbut.size)
      have hsz3 := hb3.size
      by_cases e0 : k3 = 0
      · subst e0
        go_wp2_with (
            (at_builtin
             refine wpList_append_rd _ rfl (.tmp 35) (.tmp 36) _ rfl w.heap.size 9 i0 _ 1 16 hU hi0 hz0 hz1 hz2 rfl (by omega) u3 m (L.map Value.string) rfl (hown3.alloc _) (w3.heap.size + 1) (some ⟨w3.heap.size, 0, none⟩) 1 _ [Value.string { data := #[97] }] rfl (Rd.one _ _ _) (one_strs [{ data := #[97] }]) b1 b2 (by simp; omega) ?_
             intro v4 w4 own4 gr4 at4
             have hr4 := (hr3.alloc _).own gr4 (hown3.alloc _) hg
             have hb4 := (hb3.alloc hsz3 _).own gr4 (hown3.alloc _) (Nat.le_refl _) (by simp; omega)
             clear gr4 at4))
        go_ret
        exact ⟨v4, L ++ [{ data := #[97] }], p' + 1, rfl, OwnL.mk own4 (by simp), (hsh.snoc (by decide)).more (by omega), by omega, hr4, hb4⟩
      · by_cases e1 : k3 = 1
        · subst e1
          have b3 : m + 3 ≤ maxLen := by have := hsh.1; unfold maxLen; omega
          have b4 : (m + 3) * 16 ≤ 140737488355328 := by have := hsh.1; omega
          go_wp2_with (
            (at_builtin
             refine wpList_append_rd _ rfl (.tmp 40) (.tmp 41) _ rfl w.heap.size 9 i0 _ 1 16 hU hi0 hz0 hz1 hz2 rfl (by omega) u3 m (L.map Value.string) rfl (hown3.alloc _) (w3.heap.size + 1) (some ⟨w3.heap.size, 0, none⟩) 3 _ ([{ data := #[122, 122] }, { data := #[122, 122, 122] }, { data := #[122, 122, 122, 122] }].map Value.string) rfl (Rd.of_strs (Strs.lit _ _ _ _ rfl)) (one_strs _) b3 b4 (by simp; omega) ?_
             intro v4 w4 own4 gr4 at4
             have hr4 := (hr3.alloc _).own gr4 (hown3.alloc _) hg
             have hb4 := (hb3.alloc hsz3 _).own gr4 (hown3.alloc _) (Nat.le_refl _) (by simp; omega)
             clear gr4 at4))
          go_ret
          exact ⟨v4, L ++ [{ data := #[122, 122] }] ++ [{ data := #[122, 122, 122] }] ++ [{ data := #[122, 122, 122, 122] }], p' + 1, rfl, OwnL.mk own4 (by simp), (((hsh.snoc (by decide)).snoc (by decide)).snoc (by decide)).more (by omega), by omega, hr4, hb4⟩
        · have f0 : ((k3 : Int) == 0) = false := by rw [beq_eq_false_iff_ne]; omega
          have f1 : ((k3 : Int) == 1) = false := by rw [beq_eq_false_iff_ne]; omega
          go_wp2_with fail
          go_ret
          exact ⟨_, L, p' + 1, rfl, OwnL.mk hown3 rfl, hsh.more (by omega), by omega, hr3, hb3⟩
end Go.Proofs.Ytimpmlmkhjeajaa

/- Drawing a job. -/
set_option linter.unusedVariables false
set_option linter.unusedSimpArgs false
namespace Go.Proofs.Ytimpmlmkhjeajaa
open Go.RowKit

/-- A drawn job: its numbers are small. -/
structure JDrawn (i d : Int) (n : Nat) (L : List ByteArray) : Prop where
  sh : Short 13 L
  i0 : 0 ≤ i
  i1 : i ≤ 1000
  d0 : -1 ≤ d
  d1 : d ≤ (n : Int) + 1
theorem But.blk {B g p : Nat} {a b : World} {t : TypeId} {cs : Array Value} (hb : Blk a p t cs) (h : But a.heap.size g a b) (hne : p ≠ g) : Blk b p t cs := hb.but h hne
theorem But.two {B g p : Nat} {w w' : World} (h : But B g w w') (hp : B ≤ p) (o : Nat) (v : Value) : But B g w (w'.setCell ⟨p, o, none⟩ v) :=
  h.trans ⟨rfl, rfl, rfl, by simp [World.setCell], fun k hk _ => Below.heap_setCell _ _ _ _ (by simp; omega)⟩
theorem Rdr.set1 {t : TypeId} {w : World} {g p q o : Nat} {v : Value} (h : Rdr t w g p) (hq : g < q) : Rdr t (w.setCell ⟨q, o, none⟩ v) g p :=
  h.below (B := g + 1) ⟨rfl, rfl, rfl, by simp [World.setCell], fun k hk => Below.heap_setCell _ _ _ _ (by simp; omega)⟩ (by omega)
theorem own_set1 {base q o : Nat} {w : World} {e : TypeId} {size n : Nat} {v u : Value} {xs : List Value} (h : w.ownsRow base e size v n xs) (hp : v.ownBlock ≠ some q) : (w.setCell ⟨q, o, none⟩ u).ownsRow base e size v n xs :=
  h.kept (row := some q) ⟨rfl, rfl, rfl, by simp, fun k _ hk => heap_setCell_other _ ⟨q, o, none⟩ k u (fun e => hk (by simp [e]))⟩ (.inr hp)
/-- Behind the drawing of a job. -/
def JAny (g p : Nat) (w : World) (e : Ending) (w' : World) : Prop := ∃ i d A n c L p', e = .returned (.agg #[.int .i64 i, .slice A n c, .int .i64 d]) ∧ w'.ownsRow w.heap.size 9 1 (.slice A n c) n (L.map Value.string) ∧ JDrawn i d n L ∧ p' ≤ p + 20 ∧ Rdr 125 w' g p' ∧ But w.heap.size g w w'

theorem pick_z (g p m : Nat) (z : Int) (w : World) (hz : z = (m : Int)) (hr : Rdr 125 w g p) (hp : p ≤ 1000000) (hm : 1 ≤ m) (hm2 : m ≤ 1000000) :
    Calls Try.prog 59 #[.pointer (some ⟨g, 0, none⟩), .int .i64 z] w fun e w' => In m e ∧ Rdr 125 w' g (p + 1) ∧ But w.heap.size g w w' := by subst hz; exact pick_any g p m w hr hp hm hm2
theorem jd_end {g p p' n2 c2 : Nat} {i d : Int} {A2 : Option Addr} {L : List ByteArray} {w W : World} {T : TypeId} {a b c : Value} (hB : Blk W w.heap.size T #[a, b, c]) (own : W.ownsRow (w.heap.size + 1) 9 1 (.slice A2 n2 c2) n2 (L.map Value.string)) (hr : Rdr 125 W g p') (hb : But w.heap.size g w W) (hJ : JDrawn i d n2 L) (hp : p' ≤ p + 20) (hx : True) (hg : g < w.heap.size) :
    JAny g p w (.returned (.agg #[.int .i64 i, .slice A2 n2 c2, .int .i64 d])) (((W.setCell ⟨w.heap.size, 0, none⟩ (.int .i64 i)).setCell ⟨w.heap.size, 1, none⟩ (.slice A2 n2 c2)).setCell ⟨w.heap.size, 2, none⟩ (.int .i64 d)) :=
  ⟨i, d, A2, n2, c2, L, p', rfl, own_job (own_base own (Nat.le_succ _)) (fun e => by have := (own.lt _ e).1; omega) _ _ _, hJ, hp, ((hr.set1 hg).set1 hg).set1 hg, ((hb.two (Nat.le_refl _) _ _).two (Nat.le_refl _) _ _).two (Nat.le_refl _) _ _⟩
theorem Blk.set2 {w : World} {p : Nat} {T : TypeId} {a b d : Value} (h : Blk w p T #[a, b, d]) (v : Value) : Blk (w.setCell ⟨p, 2, none⟩ v) p T #[a, b, v] := h.set_ 2 v
theorem Blk.set0 {w : World} {p : Nat} {T : TypeId} {a b d : Value} (h : Blk w p T #[a, b, d]) (v : Value) : Blk (w.setCell ⟨p, 0, none⟩ v) p T #[v, b, d] := h.set_ 0 v
/-- A short list of two numbers. -/
theorem two_at {w : World} {b k : Nat} {T : TypeId} {x y lo hi : Int} (h : Blk w b T #[.int .i64 x, .int .i64 y]) (hk : k < 2) (h1 : lo ≤ x ∧ x ≤ hi) (h2 : lo ≤ y ∧ y ≤ hi) : ∃ z : Int, w.cell? ⟨b, k, none⟩ = some (.int .i64 z) ∧ lo ≤ z ∧ z ≤ hi := by
  rcases k with _ | _ | k
  · exact ⟨x, h.cell 0, h1⟩
  · exact ⟨y, h.cell 1, h2⟩
  · omega

set_option maxHeartbeats 2000000 in
set_option maxRecDepth 100000 in
theorem jb_any (g p : Nat) (w : World) (hr : Rdr 125 w g p) (hp : p ≤ 800000) :
    Calls Try.prog 69 #[.pointer (some ⟨g, 0, none⟩)] w (JAny g p w) := by
  have hg := hr.lt
  have HB0 := hide (Blk.new w 28 #[.int .i64 0, .slice none 0 0, .int .i64 0])
  have Hb0 := hide (But.of_below (g := g) ((Below.refl w.heap.size w).alloc (Nat.le_refl _) (.cells #[.int .i64 0, .slice none 0 0, .int .i64 0] 28)))
  have Hs0 := hide (show (w.alloc (.cells #[.int .i64 0, .slice none 0 0, .int .i64 0] 28)).heap.size = w.heap.size + 1 by simp)
  go_enter Try.func69, Try.ntmps69
  go_wp2_with fail
  refine (pick_any g p 40 _ (hr.alloc _) (by omega) (by omega) (by omega)).mono ?_
  rintro e w1 ⟨⟨k1, hk1, rfl⟩, hr1, hb1⟩
  have HB1 := hide (HB0.out.but hb1 (by omega))
  have Hb1 := hide (Hb0.out.trans (hb1.mono (by rw [Hs0.out]; omega)))
  have hs1 : w.heap.size + 1 ≤ w1.heap.size := by have h := hb1.size; rw [Hs0.out] at h; exact h
  clear hb1
  go_wp2_with fail
  refine (names_any g (p + 1) _ hr1 (by omega)).mono ?_
  rintro e w2 ⟨v2, L, p2, rfl, ⟨A2, n2, c2, rfl, own2⟩, hsh, hp2, hr2, hb2⟩
  have HB2 := hide (HB1.out.but hb2 (by omega))
  have Hb2 := hide (Hb1.out.trans (hb2.mono (by omega)))
  have Own2 := hide (own_base own2 (show w.heap.size + 1 ≤ _ by omega))
  have hs2 : w1.heap.size ≤ w2.heap.size := hb2.size
  have Hsh := hide hsh
  have hn2 : n2 ≤ 13 := by have h1 := own_len' own2; have h2 := hsh.1; omega
  have hlt2 : ∀ b, (Value.slice A2 n2 c2).ownBlock = some b → b < w2.heap.size := fun b hb => (own2.lt b hb).2
  have Hlt2 := hide hlt2
  clear hb2 own2 hsh hlt2
  have HQ2 := Blk.new w2 28 #[.int .i64 (1 + (k1 : Int)), .slice A2 n2 c2, .int .i64 0]
  obtain ⟨⟨q0, q1, q2⟩, qf⟩ := HQ2.cells3
  have HQ2 := hide HQ2
  go_wp2_with fail
  refine (pick_z g p2 (n2 + 1) _ _ (by omega) (hr2.alloc _) (by omega) (by omega) (by omega)).mono ?_
  rintro e w3 ⟨⟨k3, hk3, rfl⟩, hr3, hb3⟩
  have hz3 : w2.heap.size + 1 ≤ w3.heap.size := by have h := hb3.size; simp at h; exact h
  have HB3 := hide ((HB2.out.alloc _).but hb3 (by omega))
  have HQ3 := hide (HQ2.out.but hb3 (by omega))
  have Own3 := hide (own_but (Own2.out.alloc _) hb3 (by omega))
  have Hb3 := hide ((Hb2.out.trans ((But.of_below ((Below.refl _ _).alloc (by omega) _)))).trans (hb3.mono (by simp; omega)))
  obtain ⟨⟨r0, r1, r2⟩, rf0, rf1, rf2⟩ := HQ3.out.cells3
  have HQ4 := hide (HQ3.out.set_ 2 (.int .i64 (k3 : Int)))
  have HQ4 : Hid (Blk (w3.setCell ⟨w2.heap.size, 2, none⟩ (.int .i64 (k3 : Int))) w2.heap.size 28 #[.int .i64 (1 + (k1 : Int)), .slice A2 n2 c2, .int .i64 (k3 : Int)]) := HQ4.out
  have HB4 := hide (HB3.out.far (p := ⟨w2.heap.size, 2, none⟩) (show w.heap.size ≠ w2.heap.size by omega) (.int .i64 (k3 : Int)))
  have Own4 := hide (own_set1 (q := w2.heap.size) (o := 2) (u := .int .i64 (k3 : Int)) Own3.out (fun e => by have := Hlt2.out _ e; omega))
  have Hb4 := hide (Hb3.out.two (p := w2.heap.size) (by omega) 2 (.int .i64 (k3 : Int)))
  have hr4 := hr3.set1 (q := w2.heap.size) (o := 2) (v := .int .i64 (k3 : Int)) (by omega)
  clear hb3 q0 q1 q2 qf
  go_wp2_with fail
  refine (pick_any g (p2 + 1) 40 _ hr4 (by omega) (by omega) (by omega)).mono ?_
  rintro e w5 ⟨⟨k5, hk5, rfl⟩, hr5, hb5⟩
  have hz5 : w3.heap.size ≤ w5.heap.size := by have h := hb5.size; simpa using h
  have HB5 := hide (HB4.out.but hb5 (by omega))
  have HQ5 := hide (HQ4.out.but hb5 (by omega))
  have Own5 := hide (own_but Own4.out hb5 (by omega))
  have Hb5 := hide (Hb4.out.trans (hb5.mono (by simp; omega)))
  obtain ⟨⟨s0, s1, s2⟩, sf0, sf1, sf2⟩ := HQ5.out.cells3
  clear hb5 r0 r1 r2
  by_cases h0 : k5 = 0
  · subst h0
    have hI : JDrawn (1 + (k1 : Int)) (k3 : Int) n2 L := ⟨Hsh.out, by omega, by omega, by omega, by omega⟩
    have Rd5 := hide hr5
    have RdA := hide ((hr5.alloc (.cells #[.int .i64 (-1), .int .i64 ((n2 : Int) + 1)] 3)).drewN 1)
    have RdB := hide (hr5.drewN 1)
    have hBA := Blk.new w5 3 #[.int .i64 (-1), .int .i64 ((n2 : Int) + 1)]
    have HBA := hide hBA
    clear hBA
    have hwn : IntKind.i64.wrap ((n2 : Int) + 1) = (n2 : Int) + 1 := IntWalk.i64_in _ (by omega)
    go_wp2_with fail
    go_region_with (first
      | (go_at_call 59
         refine (pick_any g (p2 + 1 + 1) 2 _ (by exact RdA.out) (by omega) (by omega) (by omega)).mono ?_
         rintro e w6 ⟨⟨k6, hk6, rfl⟩, hr6, hb6⟩
         have hz6 : w5.heap.size + 1 ≤ w6.heap.size := by have h := hb6.size; simpa using h
         obtain ⟨z, hz, hzl, hzh⟩ := two_at (k := k6) (lo := -1) (hi := (n2 : Int) + 1) (((HBA.out.drewN 1)).but hb6 (by omega)) hk6 ⟨by omega, by omega⟩ ⟨by omega, by omega⟩
         have HB6 := hide (((HB5.out.alloc _).drewN 1).but hb6 (by omega))
         have HQ6 := hide (((HQ5.out.alloc _).drewN 1).but hb6 (by omega))
         have Own6 := hide (own_but (((Own5.out.alloc _).drew)) hb6 (by omega))
         have Hb6 := hide ((Hb5.out.trans (But.of_below (((Below.refl _ _).alloc (by omega) (.cells #[.int .i64 (-1), .int .i64 ((n2 : Int) + 1)] 3)).drew))).trans (hb6.mono (by simp; omega)))
         obtain ⟨⟨hd0, hd1, hd2⟩, gf0, gf1, gf2⟩ := HQ6.out.cells3
         have hd7 := (Blk.set2 HQ6.out (.int .i64 z)).cells3.1.2.1
         have hk6i : (k6 : Int) < 2 := by omega
         have W6 := hide hr6
         clear hb6)
      | (go_at_call 59
         refine (pick_any g (p2 + 1 + 1) 2 _ (by exact RdB.out) (by omega) (by omega) (by omega)).mono ?_
         rintro e w6 ⟨⟨k6, hk6, rfl⟩, hr6', hb6⟩
         have hz6 : w5.heap.size ≤ w6.heap.size := by have h := hb6.size; simpa using h
         obtain ⟨z, hz, hzl, hzh⟩ := two_at (k := k6) (lo := -1) (hi := (n2 : Int) + 1) (Blk.new w6 3 #[.int .i64 (-1), .int .i64 ((n2 : Int) + 1)]) hk6 ⟨by omega, by omega⟩ ⟨by omega, by omega⟩
         have hb6w := (Hb5.out.trans (But.of_below (below_drewN' w.heap.size w5 1))).trans (hb6.mono (by simp; omega))
         have HB6 := hide (((HB5.out.drewN 1).but hb6 (by omega)).alloc (.cells #[.int .i64 (-1), .int .i64 ((n2 : Int) + 1)] 3))
         have HQ6a := (HQ5.out.drewN 1).but hb6 (by omega)
         have HQ6 := hide (HQ6a.alloc (.cells #[.int .i64 (-1), .int .i64 ((n2 : Int) + 1)] 3))
         have Own6 := hide ((own_but (Own5.out.drew) hb6 (by omega)).alloc (.cells #[.int .i64 (-1), .int .i64 ((n2 : Int) + 1)] 3))
         have Hb6 := hide (hb6w.trans (But.of_below ((Below.refl _ _).alloc (by omega) (.cells #[.int .i64 (-1), .int .i64 ((n2 : Int) + 1)] 3))))
         have hd1 := HQ6a.cells3.1.2.1
         obtain ⟨⟨hd0', hd1', hd2⟩, gf0, gf1, gf2⟩ := HQ6.out.cells3
         have hd7 := (Blk.set2 HQ6.out (.int .i64 z)).cells3.1.2.1
         have hk6i : (k6 : Int) < 2 := by omega
         have W6 := hide (hr6'.alloc (.cells #[.int .i64 (-1), .int .i64 ((n2 : Int) + 1)] 3))
         clear hb6 HQ6a hb6w)
      | fail)
    all_goals
      clear hwn
      have HQ7 := hide (Blk.set2 HQ6.out (.int .i64 z))
      have HB7 := hide (HB6.out.far (p := ⟨w2.heap.size, 2, none⟩) (show w.heap.size ≠ w2.heap.size by omega) (.int .i64 z))
      have Own7 := hide (own_set1 (q := w2.heap.size) (o := 2) (u := .int .i64 z) Own6.out (fun e => by have := Hlt2.out _ e; omega))
      have Hb7 := hide (Hb6.out.two (p := w2.heap.size) (by omega) 2 (.int .i64 z))
      have R7 := hide (W6.out.set1 (q := w2.heap.size) (o := 2) (v := .int .i64 z) (by omega))
      have J7 : Hid (JDrawn (1 + (k1 : Int)) z n2 L) := ⟨Hsh.out, by omega, by omega, hzl, hzh⟩
      obtain ⟨⟨x0, x1, x2⟩, _⟩ := HQ7.out.cells3
      obtain ⟨⟨y0, y1, y2⟩, z0, z1, z2⟩ := HB7.out.cells3
      have HE := hide (jd_end (p := p) HB7.out Own7.out R7.out Hb7.out J7.out (by omega) trivial hg)
      have HBe := HB7.out.job (a' := .int .i64 (1 + (k1 : Int))) (b' := .slice A2 n2 c2) (d' := .int .i64 z)
      obtain ⟨⟨e0, e1, e2⟩, _⟩ := HBe.cells3
      clear HBe
      go_wp2_with fail
      exact bodyPost_ret (v := .agg #[.int .i64 (1 + (k1 : Int)), .slice A2 n2 c2, .int .i64 z]) (by simp [results, Try.results69, go_sem, e0, e1, e2]) rfl HE.out
  by_cases h1 : k5 = 1
  · subst h1
    have hBA := Blk.new w5 3 #[.int .i64 0, .int .i64 1000]
    have HBA := hide hBA
    clear hBA
    go_wp2_with fail
    refine (pick_any g (p2 + 1 + 1) 2 _ (hr5.alloc _) (by omega) (by omega) (by omega)).mono ?_
    rintro e w6 ⟨⟨k6, hk6, rfl⟩, hr6, hb6⟩
    have hz6 : w5.heap.size + 1 ≤ w6.heap.size := by have h := hb6.size; simpa using h
    obtain ⟨z, hz, hzl, hzh⟩ := two_at (k := k6) (lo := 0) (hi := 1000) (HBA.out.but hb6 (by omega)) hk6 ⟨by omega, by omega⟩ ⟨by omega, by omega⟩
    have HB6 := hide ((HB5.out.alloc _).but hb6 (by omega))
    have HQ6 := hide ((HQ5.out.alloc _).but hb6 (by omega))
    have Own6 := hide (own_but (Own5.out.alloc _) hb6 (by omega))
    have Hb6 := hide ((Hb5.out.trans (But.of_below ((Below.refl _ _).alloc (by omega) (.cells #[.int .i64 0, .int .i64 1000] 3)))).trans (hb6.mono (by simp; omega)))
    obtain ⟨⟨hd0, hd1, hd2⟩, gf0, gf1, gf2⟩ := HQ6.out.cells3
    have hk6i : (k6 : Int) < 2 := by omega
    have W6 := hide hr6
    have HQ7 := hide (Blk.set0 HQ6.out (.int .i64 z))
    have HB7 := hide (HB6.out.far (p := ⟨w2.heap.size, 0, none⟩) (show w.heap.size ≠ w2.heap.size by omega) (.int .i64 z))
    have Own7 := hide (own_set1 (q := w2.heap.size) (o := 0) (u := .int .i64 z) Own6.out (fun e => by have := Hlt2.out _ e; omega))
    have Hb7 := hide (Hb6.out.two (p := w2.heap.size) (by omega) 0 (.int .i64 z))
    have R7 := hide (W6.out.set1 (q := w2.heap.size) (o := 0) (v := .int .i64 z) (by omega))
    have J7 : Hid (JDrawn z (k3 : Int) n2 L) := ⟨Hsh.out, hzl, hzh, by omega, by omega⟩
    clear hb6
    obtain ⟨⟨x0, x1, x2⟩, _⟩ := HQ7.out.cells3
    obtain ⟨⟨y0, y1, y2⟩, z0, z1, z2⟩ := HB7.out.cells3
    have HE := hide (jd_end (p := p) HB7.out Own7.out R7.out Hb7.out J7.out (by omega) trivial hg)
    have HBe := HB7.out.job (a' := .int .i64 z) (b' := .slice A2 n2 c2) (d' := .int .i64 (k3 : Int))
    obtain ⟨⟨e0, e1, e2⟩, _⟩ := HBe.cells3
    clear HBe
    go_wp2_with fail
    exact bodyPost_ret (v := .agg #[.int .i64 z, .slice A2 n2 c2, .int .i64 (k3 : Int)]) (by simp [results, Try.results69, go_sem, e0, e1, e2]) rfl HE.out
  · have h0i : ((k5 : Int) == 0) = false := by rw [beq_eq_false_iff_ne]; omega
    have h1i : ((k5 : Int) == 1) = false := by rw [beq_eq_false_iff_ne]; omega
    have J7 : Hid (JDrawn (1 + (k1 : Int)) (k3 : Int) n2 L) := ⟨Hsh.out, by omega, by omega, by omega, by omega⟩
    have R5 := hide hr5
    obtain ⟨⟨x0, x1, x2⟩, _⟩ := HQ5.out.cells3
    obtain ⟨⟨y0, y1, y2⟩, z0, z1, z2⟩ := HB5.out.cells3
    have HE := hide (jd_end (p := p) HB5.out Own5.out R5.out Hb5.out J7.out (by omega) trivial hg)
    have HBe := HB5.out.job (a' := .int .i64 (1 + (k1 : Int))) (b' := .slice A2 n2 c2) (d' := .int .i64 (k3 : Int))
    obtain ⟨⟨e0, e1, e2⟩, _⟩ := HBe.cells3
    clear HBe
    go_wp2_with fail
    exact bodyPost_ret (v := .agg #[.int .i64 (1 + (k1 : Int)), .slice A2 n2 c2, .int .i64 (k3 : Int)]) (by simp [results, Try.results69, go_sem, e0, e1, e2]) rfl HE.out
end Go.Proofs.Ytimpmlmkhjeajaa

/- DrawJobNew. -/
set_option linter.unusedVariables false
set_option linter.unusedSimpArgs false
namespace Go.Proofs.Ytimpmlmkhjeajaa
open Go.RowKit

theorem pick_accs' {base : Nat} (g p b n c : Nat) (X : List Acc) (w : World) (hr : Rdr 125 w g p) (hp : p ≤ 1000000) (hX : OwnA base w (.slice (some ⟨b, 0, none⟩) n c) X) (hg : g < base) (h1 : 1 ≤ n) (h2 : n ≤ 1000000) :
    Calls Try.prog 59 #[.pointer (some ⟨g, 0, none⟩), .int .i64 n] w fun e w' => ∃ (k : Nat) (a : Acc) (u : Value), k < n ∧ e = .returned (.int .i64 k) ∧ X[k]? = some a ∧ w'.cell? ⟨b, k * 2, none⟩ = some (.string a.1) ∧ w'.cell? ⟨b, k * 2 + 1, none⟩ = some u ∧
      OwnA base w' (.slice (some ⟨b, 0, none⟩) n c) X ∧ Rdr 125 w' g (p + 1) ∧ But w.heap.size g w w' := by
  refine (pick_any g p n w hr hp h1 h2).mono fun e w' ⟨⟨k, hk, he⟩, hr', hb⟩ => ?_
  have own' := hX.but hb hg
  obtain ⟨A, n', c', xs, e1, o1, o2⟩ := id own'
  injection e1 with e1 e2 e3
  subst e1 e2 e3
  have e4 := o1.1
  have e5 := o2.1
  obtain ⟨a, ha⟩ : ∃ a, X[k]? = some a := ⟨X[k]'(by omega), List.getElem?_eq_getElem _⟩
  obtain ⟨p1, u, p2, _⟩ := o2.2 k a ha
  exact ⟨k, a, u, hk, he, ha, (o1.cellAt (k * 2) (by omega)).trans p1, (o1.cellAt (k * 2 + 1) (by omega)).trans p2, own', hr', hb⟩

set_option maxHeartbeats 2000000 in
set_option maxRecDepth 100000 in
theorem d_JobNew (A : Option Addr) (n c : Nat) (w : World) (hc : Code w w.heap.size A n) (hnc : n ≤ c) (hn : n ≤ 1048576) :
    Calls Try.prog 19 #[.slice A n c] w fun e w' => ∃ v X s m, e = .returned (.tuple #[v, .string s, .int .i64 m]) ∧ DrawnA w v X w' ∧ s.size ≤ 5 := by
  go_enter Try.func19, Try.ntmps19
  go_wp2_with fail
  refine (open_any A n c _ hc hnc hn).mono ?_
  rintro e w1 ⟨rfl, hr1, hb1⟩
  have hlt1 := hr1.lt
  go_wp2_with fail
  refine (accounts_any w.heap.size 0 _ hr1 (by omega)).mono ?_
  rintro e w2 ⟨v, X, p2, rfl, hown, hdr, hpos, hp2, hr2, hb2⟩
  have hs2 := hb2.size
  obtain ⟨A1, n1, c1, xs, e1, o1, o2⟩ := id hown
  subst e1
  have e4 := o1.1
  have e5 := o2.1
  have hn7 : n1 ≤ 7 ∧ 1 ≤ n1 := by have := hdr.1; omega
  obtain ⟨gX, capX, eX, hgX, hgX2⟩ := o1.form (by omega)
  injection eX with eX1 _ eX3
  subst eX1 eX3
  have Hown := hide hown
  have Hdr := hide hdr
  have Hb1 := hide hb1
  have Hb2 := hide hb2
  have hn7a := hn7.1
  clear o1 o2 e4 e5 hown hdr hb1 hb2
  go_wp2_with fail
  refine (pick_accs' w.heap.size p2 gX n1 c1 X w2 hr2 (by omega) Hown.out hlt1 (by omega) (by omega)).mono ?_
  rintro e w4 ⟨k, a, u, hk, rfl, ha, d0, d1, own4, hr4, hb4⟩
  have Hown4 := hide own4
  have Hb4 := hide (Hb2.out.trans (hb4.mono hs2))
  have hsa := (Hdr.out.2 a (List.mem_of_getElem? ha)).1
  have hs4 : w2.heap.size ≤ w4.heap.size := hb4.size
  clear own4 hb4 ha
  have hki : (k : Int) < (n1 : Int) := by omega
  go_wp2_with fail
  refine (pick_any w.heap.size (p2 + 1) 6 _ hr4 (by omega) (by omega) (by omega)).mono ?_
  rintro e w5 ⟨⟨k5, hk5, rfl⟩, hr5, hb5⟩
  have Hown5 := hide (Hown4.out.but hb5 hlt1)
  have Hb5 := hide (Hb4.out.trans (hb5.mono (by omega)))
  have hs5 : w4.heap.size ≤ w5.heap.size := hb5.size
  clear hb5
  by_cases h0 : k5 = 0
  · subst h0
    go_wp2_with fail
    refine (name_any w.heap.size (p2 + 1 + 1) _ hr5 (by omega)).mono ?_
    rintro e w6 ⟨⟨s, hs, rfl⟩, hr6, hb6⟩
    have Hown6 := hide (Hown5.out.but hb6 hlt1)
    have Hb6 := hide (Hb5.out.trans (hb6.mono (by omega)))
    have hs6 : w5.heap.size ≤ w6.heap.size := hb6.size
    clear hb6
    go_wp2_with fail
    refine (pick_any w.heap.size _ 40 _ hr6 (by omega) (by omega) (by omega)).mono ?_
    rintro e w7 ⟨⟨k7, hk7, rfl⟩, hr7, hb7⟩
    have Hown7 := hide (Hown6.out.but hb7 hlt1)
    have Hb7 := hide (Hb6.out.trans (hb7.mono (by omega)))
    have hs7 : w6.heap.size ≤ w7.heap.size := hb7.size
    clear hb7
    go_wp2_with fail
    refine (pick_any w.heap.size _ 30 _ hr7 (by omega) (by omega) (by omega)).mono ?_
    rintro e w8 ⟨⟨k8, hk8, rfl⟩, hr8, hb8⟩
    have Hown8 := hide (Hown7.out.but hb8 hlt1)
    have Hb8 := hide (Hb7.out.trans (hb8.mono (by omega)))
    clear hb8
    go_wp2_with fail
    go_ret3
    exact ⟨_, X, s, _, rfl, DrawnA.mk Hown8.out (Hdr.out.more (by omega)) hpos Hb1.out Hb8.out hlt1, hs⟩
  · have h0i : ((k5 : Int) == 0) = false := by rw [beq_eq_false_iff_ne]; omega
    go_wp2_with fail
    refine (pick_any w.heap.size _ 40 _ hr5 (by omega) (by omega) (by omega)).mono ?_
    rintro e w7 ⟨⟨k7, hk7, rfl⟩, hr7, hb7⟩
    have Hown7 := hide (Hown5.out.but hb7 hlt1)
    have Hb7 := hide (Hb5.out.trans (hb7.mono (by omega)))
    have hs7 : w5.heap.size ≤ w7.heap.size := hb7.size
    clear hb7
    go_wp2_with fail
    refine (pick_any w.heap.size _ 30 _ hr7 (by omega) (by omega) (by omega)).mono ?_
    rintro e w8 ⟨⟨k8, hk8, rfl⟩, hr8, hb8⟩
    have Hown8 := hide (Hown7.out.but hb8 hlt1)
    have Hb8 := hide (Hb7.out.trans (hb8.mono (by omega)))
    clear hb8
    go_wp2_with fail
    go_ret3
    exact ⟨_, X, a.1, _, rfl, DrawnA.mk Hown8.out (Hdr.out.more (by omega)) hpos Hb1.out Hb8.out hlt1, Nat.le_trans hsa (by omega)⟩
end Go.Proofs.Ytimpmlmkhjeajaa
