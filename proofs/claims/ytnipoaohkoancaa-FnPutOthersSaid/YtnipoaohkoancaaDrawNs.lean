/- Drawing names: l91Names, DrawNamesValid, DrawNamesPut, DrawNamesDrop. -/
import Derived.Test.YtnipoaohkoancaaDraw1
import Derived.Test.YtnipoaohkoancaaWith
set_option linter.unusedVariables false
set_option linter.unusedSimpArgs false
namespace Go.Proofs.Ytnipoaohkoancaa
open Go.RowKit

theorem But.grown {g : Nat} {a b : World} (h : But a.heap.size g a b) : a.grownBy b (some g) := ⟨h.os, h.tape, h.output, h.size, fun k hk hn => h.block k hk (fun e => hn (by rw [e]))⟩
theorem own_but {base g : Nat} {a b : World} {e : TypeId} {size n : Nat} {v : Value} {xs : List Value} (ho : a.ownsRow base e size v n xs) (h : But a.heap.size g a b) (hg : g < base) : b.ownsRow base e size v n xs :=
  ho.kept h.grown (.inr (fun e => by have := (ho.lt g e).1; omega))
theorem But.own {B g base : Nat} {a w w' : World} {e : TypeId} {size n : Nat} {v : Value} {xs : List Value} (h : But B g a w) (hg : w.grownBy w' v.ownBlock) (ho : w.ownsRow base e size v n xs) (hB : B ≤ base) (hbw : B ≤ w.heap.size) : But B g a w' :=
  h.trans ⟨hg.os, hg.tape, hg.output, hg.size, fun k hk _ => hg.block k (by omega) (fun e => by have := (ho.lt k e.symm).1; omega)⟩
theorem But.alloc {B g : Nat} {a w : World} (h : But B g a w) (hB : B ≤ w.heap.size) (o : Obj) : But B g a (w.alloc o) := h.trans (But.of_below ((Below.refl B w).alloc hB o))
theorem Rdr.own {t : TypeId} {g p base : Nat} {w w' : World} {e : TypeId} {size n : Nat} {v : Value} {xs : List Value} (h : Rdr t w g p) (hg : w.grownBy w' v.ownBlock) (ho : w.ownsRow base e size v n xs) (hgb : g < base) : Rdr t w' g p :=
  h.below (B := g + 1) ⟨hg.os, hg.tape, hg.output, hg.size, fun k hk => hg.block k (by have := h.lt; omega) (fun e => by have := (ho.lt k e.symm).1; omega)⟩ (by omega)
theorem Blk.own {b : Nat} {w w' : World} {t : TypeId} {cs : Array Value} {v : Value} (h : Blk w b t cs) (hg : w.grownBy w' v.ownBlock) (hne : v.ownBlock ≠ some b) : Blk w' b t cs := h.grown hg (fun e => hne e.symm)
theorem Blk.but {b g : Nat} {w w' : World} {t : TypeId} {cs : Array Value} (h : Blk w b t cs) (hb : But w.heap.size g w w') (hne : b ≠ g) : Blk w' b t cs := (hb.block b h.lt hne).trans h

/-- Block b holds N short strings. -/
def Lit (w : World) (b N : Nat) : Prop := ∃ cs : Array Value, Blk w b 9 cs ∧ cs.size = N ∧ cs.toList.all shortStr = true
theorem Lit.cell {w : World} {b N k : Nat} (h : Lit w b N) (hk : k < N) : ∃ s : ByteArray, s.size ≤ 5 ∧ w.cell? ⟨b, k, none⟩ = some (.string s) := by
  obtain ⟨cs, hb, hn, ha⟩ := h
  obtain ⟨s, h5, hs⟩ := shortStr_of (List.all_eq_true.1 ha (cs[k]'(by omega)) (by simp))
  exact ⟨s, h5, by rw [hb.cell, Array.getElem?_eq_getElem (by omega), hs]⟩

set_option maxHeartbeats 400000 in
theorem pick_lit (g p m b N : Nat) (z : Int) (cs : Array Value) (w : World) (hz : z = (m : Int)) (hr : Rdr 54 w g p) (hp : p ≤ 1000000) (hm : 1 ≤ m) (hm2 : m ≤ 1000000) (hb : Blk w b 9 cs) (hne : b ≠ g) (hN : cs.size = N) (hs : cs.toList.all shortStr = true) :
    Calls Try.prog 40 #[.pointer (some ⟨g, 0, none⟩), .int .i64 z] w fun e w' => In m e ∧ Rdr 54 w' g (p + 1) ∧ But w.heap.size g w w' ∧ Lit w' b N := by
  subst hz
  exact (pick_any g p m w hr hp hm hm2).mono fun _ _ ⟨h1, h2, h3⟩ => ⟨h1, h2, h3, cs, hb.but h3 hne, hN, hs⟩

/-- A list of at most M short strings. -/
def Short (M : Nat) (L : List ByteArray) : Prop := L.length ≤ M ∧ ∀ s ∈ L, s.size ≤ 5
theorem Short.snoc {M : Nat} {L : List ByteArray} {s : ByteArray} (h : Short M L) (hs : s.size ≤ 5) : Short (M + 1) (L ++ [s]) := by
  refine ⟨by have := h.1; simp; omega, fun t ht => ?_⟩
  rcases List.mem_append.1 ht with h1 | h1
  · exact h.2 t h1
  · rw [List.mem_singleton.1 h1]; exact hs
theorem Short.more {M M' : Nat} {L : List ByteArray} (h : Short M L) (hm : M ≤ M') : Short M' L := ⟨by have := h.1; omega, h.2⟩

theorem own_len' {w : World} {base : Nat} {e : TypeId} {v : Value} {m : Nat} {L : List ByteArray} (h : w.ownsRow base e 1 v m (L.map Value.string)) : L.length = m := by
  have := h.1; rw [List.length_map, Nat.mul_one] at this; exact this
theorem Lit.but {b N g : Nat} {w w' : World} (h : Lit w b N) (hb : But w.heap.size g w w') (hne : b ≠ g) : Lit w' b N := by
  obtain ⟨cs, h1, h2, h3⟩ := h
  exact ⟨cs, h1.but hb hne, h2, h3⟩
/-- The loop of l91Names behind k rounds. -/
def NamesAt (W : World) (g p k : Nat) (v : Value) (m : Nat) (wr : World) : Prop :=
  ∃ (L : List ByteArray) (p' : Nat), wr.ownsRow W.heap.size 9 1 v m (L.map Value.string) ∧ v.ownBlock ≠ some (W.heap.size + 1) ∧ Short k L ∧ p' ≤ p + 1 + k ∧ Rdr 54 wr g p' ∧ But W.heap.size g W wr ∧ Lit wr (W.heap.size + 1) 10 ∧ W.heap.size + 1 < wr.heap.size

theorem names_step {W w3 w4 : World} {g p p' k m : Nat} {v v4 : Value} {L : List ByteArray} {s : ByteArray}
    (own4 : w4.ownsRow W.heap.size 9 1 v4 (m + 1) (L.map Value.string ++ [Value.string s])) (gr4 : (w3.alloc (.cells #[Value.string s] 9)).grownBy w4 v.ownBlock)
    (at4 : v4.ownBlock = v.ownBlock ∨ v4.ownBlock = some (w3.alloc (.cells #[Value.string s] 9)).heap.size) (hown : w3.ownsRow W.heap.size 9 1 v m (L.map Value.string)) (hne : v.ownBlock ≠ some (W.heap.size + 1))
    (hsh : Short k L) (hs5 : s.size ≤ 5) (hr : Rdr 54 w3 g p') (hb : But W.heap.size g W w3) (hlit : Lit w3 (W.heap.size + 1) 10) (hs3 : W.heap.size + 1 < w3.heap.size) (hg : g < W.heap.size) (hp : p' ≤ p + 1 + (k + 1)) :
    NamesAt W g p (k + 1) v4 (m + 1) w4 := by
  refine ⟨L ++ [s], p', by rw [List.map_append]; exact own4, ?_, hsh.snoc hs5, hp, (hr.alloc _).own gr4 (hown.alloc _) hg, (hb.alloc hb.size _).own gr4 (hown.alloc _) (Nat.le_refl _) (by simp; have := hb.size; omega), ?_, ?_⟩
  · rcases at4 with e | e
    · rw [e]; exact hne
    · rw [e]; intro h; simp at h; omega
  · obtain ⟨cs, h1, h2, h3⟩ := hlit
    exact ⟨cs, (h1.alloc _).own gr4 hne, h2, h3⟩
  · have := gr4.size; simp at this; omega

set_option maxHeartbeats 3000000 in
set_option maxRecDepth 100000 in
theorem names_any (g p : Nat) (w : World) (hr : Rdr 54 w g p) (hp : p ≤ 900000) :
    Calls Try.prog 33 #[.pointer (some ⟨g, 0, none⟩)] w fun e w' => ∃ v L p', e = .returned v ∧ OwnL w.heap.size w' v L ∧ Short 13 L ∧ p' ≤ p + 12 ∧ Rdr 54 w' g p' ∧ But w.heap.size g w w' := by
  obtain ⟨i0, hi0, hz0, hz1, hz2⟩ := info_parts str_info
  have hU := Try.underlying23
  have hg := hr.lt
  go_enter Try.func33, Try.ntmps33
  go_wp2_with fail
  with_reducible refine (pick_lit g p 16 (w.heap.size + 1) 10 _ _ _ (by omega) ((hr.alloc _).alloc _) (by omega) (by omega) (by omega) (by have h := Blk.new (w.alloc (.cells #[] 9)) 9; rw [World.size_alloc] at h; exact h _) (by omega) ?hn ?hs).mono ?_
  case hn => rfl
  case hs => rfl
  rintro e w1 ⟨⟨k0, hk0, rfl⟩, hr1, hbut1, hlit1⟩
  have hsz : w.heap.size + 2 ≤ w1.heap.size := by have := hbut1.size; simp at this; omega
  have hb1 : But w.heap.size g w w1 := (((But.refl _ _ _).alloc (Nat.le_refl _) _).alloc (by simp) _).trans (hbut1.mono (by simp; omega))
  go_wp2_with fail
  generalize ((k0 : Int) == 0) = full
  go_loopw [3, 6] (fun v i wr => ∃ (k m : Nat), k ≤ 10 ∧ i = .int .i64 k ∧ NamesAt w g p k v m wr) (fun _ i _ => 10 - (intOf i).toNat)
  case atStart =>
    exact ⟨0, 0, by omega, rfl, [], p + 1, own_but ((World.ownsRow_lit w #[] 0 (Nat.le_refl _) (Nat.zero_le _) rfl).alloc _) hbut1 hg, by simp [Value.ownBlock], ⟨by simp, by simp⟩, by omega, hr1, hb1, hlit1, by omega⟩
  case round =>
    obtain ⟨k, m, hk, rfl, L, p', hown, hne, hsh, hp', hr2, hbut, hlit, hs2⟩ := hrel
    have hm := own_len' hown
    have b1 : m + 1 ≤ maxLen := by have := hsh.1; unfold maxLen; omega
    have b2 : (m + 1) * 16 ≤ 140737488355328 := by have := hsh.1; omega
    by_cases hlt : k < 10
    · obtain ⟨s, hs5, hck⟩ := hlit.cell hlt
      cases full
      · go_wp2_with fail
        refine (pick_any g p' 3 _ hr2 (by omega) (by omega) (by omega)).mono ?_
        rintro e w3 ⟨⟨k3, hk3, rfl⟩, hr3, hbut3⟩
        have hown3 := own_but hown hbut3 hg
        have hlit3 : Lit w3 (w.heap.size + 1) 10 := hlit.but hbut3 (by omega)
        have hck3 : w3.cell? ⟨w.heap.size + 1, k, none⟩ = some (.string s) := (World.cell?_of_block (a := ⟨w.heap.size + 1, k, none⟩) (hbut3.block (w.heap.size + 1) hs2 (by omega))).trans hck
        have hb3 : But w.heap.size g w w3 := hbut.trans (hbut3.mono hbut.size)
        have hs3 : w.heap.size + 1 < w3.heap.size := by have := hbut3.size; omega
        clear hck hbut3
        go_wp2_with (
            (at_builtin
             refine wpList_append_rd _ rfl (.tmp 24) (.tmp 29) _ rfl w.heap.size 9 i0 _ 1 16 hU hi0 hz0 hz1 hz2 rfl (by omega) u3 m (L.map Value.string) rfl (hown3.alloc _) (w3.heap.size + 1) (some ⟨w3.heap.size, 0, none⟩) 1 _ [Value.string s] rfl (Rd.one _ _ _) (one_strs [s]) b1 b2 (by simp; omega) ?_
             intro v4 w4 own4 gr4 at4
             have hrest : NamesAt w g p (k + 1) v4 (m + 1) w4 := names_step own4 gr4 at4 hown3 hne hsh hs5 hr3 hb3 hlit3 hs3 hg (by omega)
             clear gr4 at4 own4))
        · go_roundw
          case rel => exact ⟨k + 1, m + 1, by omega, by go_num, hrest⟩
          case measure => simp [intOf]; omega
        · go_roundw
          case rel => exact ⟨k + 1, m, by omega, by go_num, L, _, hown3, hne, hsh.more (by omega), by omega, hr3, hb3, hlit3, hs3⟩
          case measure => simp [intOf]; omega
      · go_wp2_with (
            (at_builtin
             refine wpList_append_rd _ rfl (.tmp 24) (.tmp 29) _ rfl w.heap.size 9 i0 _ 1 16 hU hi0 hz0 hz1 hz2 rfl (by omega) u3 m (L.map Value.string) rfl (hown.alloc _) (wr.heap.size + 1) (some ⟨wr.heap.size, 0, none⟩) 1 _ [Value.string s] rfl (Rd.one _ _ _) (one_strs [s]) b1 b2 (by simp; omega) ?_
             intro v4 w4 own4 gr4 at4
             have hrest : NamesAt w g p (k + 1) v4 (m + 1) w4 := names_step own4 gr4 at4 hown hne hsh hs5 hr2 hbut hlit hs2 hg (by omega)
             clear gr4 at4 own4))
        go_roundw
        case rel => exact ⟨k + 1, m + 1, by omega, by go_num, hrest⟩
        case measure => simp [intOf]; omega
    · go_wp2_with fail
      refine (pick_any g p' 40 _ hr2 (by omega) (by omega) (by omega)).mono ?_
      rintro e w3 ⟨⟨k3, hk3, rfl⟩, hr3, hbut3⟩
      have hown3 := own_but hown hbut3 hg
      have hb3 : But w.heap.size g w w3 := hbut.trans (hbut3.mono hbut.size)
      have hsz3 := hb3.size
      by_cases e0 : k3 = 0
      · subst e0
        go_wp2_with (
            (at_builtin
             refine wpList_append_rd _ rfl (.tmp 35) (.tmp 36) _ rfl w.heap.size 9 i0 _ 1 16 hU hi0 hz0 hz1 hz2 rfl (by omega) u3 m (L.map Value.string) rfl (hown3.alloc _) (w3.heap.size + 1) (some ⟨w3.heap.size, 0, none⟩) 1 _ [Value.string { data := #[97] }] rfl (Rd.one _ _ _) (one_strs [{ data := #[97] }]) b1 b2 (by simp; omega) ?_
             intro v4 w4 own4 gr4 at4
             have hr4 := (hr3.alloc _).own gr4 (hown3.alloc _) hg
             have hb4 := (hb3.alloc hsz3 _).own gr4 (hown3.alloc _) (Nat.le_refl _) (by simp; omega)
             clear gr4 at4))
        go_ret
        exact ⟨v4, L ++ [{ data := #[97] }], p' + 1, rfl, OwnL.mk own4 (by simp), (hsh.snoc (by decide)).more (by omega), by omega, hr4, hb4⟩
      · by_cases e1 : k3 = 1
        · subst e1
          have b3 : m + 3 ≤ maxLen := by have := hsh.1; unfold maxLen; omega
          have b4 : (m + 3) * 16 ≤ 140737488355328 := by have := hsh.1; omega
          go_wp2_with (
            (at_builtin
             refine wpList_append_rd _ rfl (.tmp 40) (.tmp 41) _ rfl w.heap.size 9 i0 _ 1 16 hU hi0 hz0 hz1 hz2 rfl (by omega) u3 m (L.map Value.string) rfl (hown3.alloc _) (w3.heap.size + 1) (some ⟨w3.heap.size, 0, none⟩) 3 _ ([{ data := #[122, 122] }, { data := #[122, 122, 122] }, { data := #[122, 122, 122, 122] }].map Value.string) rfl (Rd.of_strs (Strs.lit _ _ _ _ rfl)) (one_strs _) b3 b4 (by simp; omega) ?_
             intro v4 w4 own4 gr4 at4
             have hr4 := (hr3.alloc _).own gr4 (hown3.alloc _) hg
             have hb4 := (hb3.alloc hsz3 _).own gr4 (hown3.alloc _) (Nat.le_refl _) (by simp; omega)
             clear gr4 at4))
          go_ret
          exact ⟨v4, L ++ [{ data := #[122, 122] }] ++ [{ data := #[122, 122, 122] }] ++ [{ data := #[122, 122, 122, 122] }], p' + 1, rfl, OwnL.mk own4 (by simp), (((hsh.snoc (by decide)).snoc (by decide)).snoc (by decide)).more (by omega), by omega, hr4, hb4⟩
        · have f0 : ((k3 : Int) == 0) = false := by rw [beq_eq_false_iff_ne]; omega
          have f1 : ((k3 : Int) == 1) = false := by rw [beq_eq_false_iff_ne]; omega
          go_wp2_with fail
          go_ret
          exact ⟨_, L, p' + 1, rfl, OwnL.mk hown3 rfl, hsh.more (by omega), by omega, hr3, hb3⟩
end Go.Proofs.Ytnipoaohkoancaa
