/- spec: BoxesPut. -/
import Derived.Test.YtimpmlmkhjeajaaZh
import Derived.Deep.RegionLaw
set_option linter.unusedVariables false
set_option linter.unusedSimpArgs false
namespace Go.Proofs.Ytimpmlmkhjeajaa
open Go.RowKit

theorem rd_two_at (w : World) (e : TypeId) (x y : Value) {g : Nat} (hg : g = w.heap.size) : Rd (w.alloc (.cells #[x, y] e)) (g + 1) 2 (some ⟨g, 0, none⟩) 1 [x, y] := by subst hg; exact rd_two w e x y
theorem bstep_1 {s : ByteArray} {id : Int} {o : List Bx} {a : Bx} (h1 : blt s a.1 = true) : bstep s id (o, false) a = (o ++ [(s, [id])] ++ [a], true) := by
  have h2 : a.1 ≠ s := fun e => blt_ne h1 e.symm
  simp [bstep, h1, h2]
theorem bstep_2 {s : ByteArray} {id : Int} {o : List Bx} {a : Bx} {b : Bool} (h1 : a.1 = s) : bstep s id (o, b) a = (o ++ [(s, bput a.2 id)], true) := by
  simp [bstep, h1, blt_irrefl]
theorem bstep_3 {s : ByteArray} {id : Int} {o : List Bx} {a : Bx} {b : Bool} (h1 : b = true ∨ blt s a.1 = false) (h2 : a.1 ≠ s) : bstep s id (o, b) a = (o ++ [a], b) := by
  rcases h1 with h1 | h1 <;> simp [bstep, h1, h2]
theorem bsput_small {X : List Bx} {s : ByteArray} {id : Int} (h : bxsB X = true) (hs : nvB s = true) : BSmall (bsput X s id) := fun a ha => by
  rw [bsput_eq (bxsB_asc h)] at ha
  have hm : a.1 ∈ bnms (insB s id X) := List.mem_map_of_mem ha
  have small : ∀ t, nvB t = true → t.size ≤ maxLen := fun t ht => by have := nvB_size ht; unfold maxLen; omega
  rcases insB_mem.1 hm with e | e
  · rw [e]; exact small _ hs
  · obtain ⟨k, L, hk⟩ := bnms_mem e
    exact small _ (bxsB_bx h (List.mem_of_getElem? hk)).1

set_option maxHeartbeats 2000000 in
set_option maxRecDepth 100000 in
theorem s_BoxesPut (A : Option Addr) (n c : Nat) (X : List Bx) (s : ByteArray) (id : Int) (w : World) (hX : Bxs w w.heap.size A n X) (hS : BSmall X) (hn : n ≤ maxLen) (hs : s.size ≤ maxLen) :
    Calls Try.prog 78 #[.slice A n c, .string s, .int .i64 id] w fun e w' => Own2B w (bsPutM X s id) e w' := by
  obtain ⟨i1, hi1, hy0, hy1, hy2⟩ := info_parts' int_info
  have hU := Try.underlying47
  obtain ⟨i2, hi2, hz0, hz1, hz2⟩ := info_parts' box_info
  have hUB := Try.underlying41
  have hl := hide hX.1
  have HX := hide hX
  have HS := hide hS
  have HN := hide hn
  have Hs := hide hs
  have empty : ∀ W : World, Below w.heap.size w W → OwnB w.heap.size (W.alloc (.cells #[] 55)) (.slice (some ⟨W.heap.size, 0, none⟩) 0 0) [] := fun W hb =>
    ⟨_, 0, 0, [], rfl, rfl, World.ownsRow_lit W #[] 0 hb.size (Nat.zero_le _) rfl, fun y h => (by cases h), fun y h => (by cases h), List.Pairwise.nil⟩
  have Hempty := hide empty
  clear hX hS hn hs empty
  go_enter Try.func78, Try.ntmps78
  go_wp2_with fail
  refine (s_Bs A n c X _ HX.out HS.out HN.out).mono ?_
  rintro e w1 ⟨rfl, hb1⟩
  have Hb1 := hide hb1
  have hs1 := hb1.size
  clear hb1
  cases h1 : bxsB X
  · have H : Hid (bsPutM X s id = none) := bsPutM_1 h1
    clear h1
    go_wp2_with fail
    go_ret2
    exact ⟨_, by rw [H.out]; rfl, by rw [H.out]; exact Hempty.out _ Hb1.out, Hb1.out.alloc hs1 _⟩
  have H1 := hide h1
  have hn10 : n ≤ 10 := by have h := bxsB_10 h1; have := hl.out; omega
  clear h1
  go_wp2_with fail
  refine (s_NameValid s _ Hs.out).mono ?_
  rintro e w' ⟨rfl, rfl⟩
  cases h2 : nvB s
  · have H : Hid (bsPutM X s id = none) := bsPutM_2 h2
    clear h2
    go_wp2_with fail
    go_ret2
    exact ⟨_, by rw [H.out]; rfl, by rw [H.out]; exact Hempty.out _ Hb1.out, Hb1.out.alloc hs1 _⟩
  have H2 := hide h2
  clear h2
  go_wp2_with fail
  refine (s_in id 1 999 _).mono ?_
  rintro e w' ⟨rfl, rfl⟩
  cases h3 : inB id 1 999
  · have H : Hid (bsPutM X s id = none) := bsPutM_3 h3
    clear h3
    go_wp2_with fail
    go_ret2
    exact ⟨_, by rw [H.out]; rfl, by rw [H.out]; exact Hempty.out _ Hb1.out, Hb1.out.alloc hs1 _⟩
  have H3 : Hid (inR id = true) := h3
  have HSY := hide (bsput_small (id := id) H1.out H2.out)
  clear h3
  have Hst : Hid (NestB w.heap.size (w1.alloc (.cells #[] 55)) (some ⟨w1.heap.size, 0, none⟩) 0 0 []) := ⟨World.ownsRow_lit w1 #[] 0 hs1 (Nat.zero_le _) rfl, fun y h => (by cases h), fun y h => (by cases h), List.Pairwise.nil⟩
  have Hb2 : Hid (Below w.heap.size w (w1.alloc (.cells #[] 55))) := Hb1.out.alloc hs1 _
  go_wp2_with fail
  go_loopw [8, 9, 10] (fun u d i wr => ∃ (k m : Nat) (A4 : Option Addr) (c4 : Nat) (Y : List BxV) (b : Bool), k ≤ n ∧ i = .int .i64 k ∧ u = .slice A4 m c4 ∧ d = .bool b ∧ Hid (bst s id X k = (bxV Y, b)) ∧ Hid (NestB w.heap.size wr A4 m c4 Y) ∧ m ≤ 2 * k ∧ Hid (Below w.heap.size w wr)) (fun _ _ i _ => n - (intOf i).toNat)
  case atStart => exact ⟨0, 0, _, _, [], false, Nat.zero_le _, rfl, rfl, rfl, rfl, Hst.out, by omega, Hb2.out⟩
  case round =>
    obtain ⟨k, m, A4, c4, Y, b, hk, rfl, rfl, rfl, hp, hN, hm, hbr⟩ := hrel
    have hsz := hbr.out.size
    have hbi := (Below.refl wr.heap.size wr).alloc (Nat.le_refl _) (.cells #[.int .i64 id] 3)
    have oi : (wr.alloc (.cells #[.int .i64 id] 3)).ownsRow wr.heap.size 3 1 (.slice (some ⟨wr.heap.size, 0, none⟩) 1 1) 1 ([id].map (Value.int .i64)) := World.ownsRow_lit wr #[.int .i64 id] 1 (Nat.le_refl _) (by decide) rfl
    have HBI := hide hbi
    have OI := hide oi
    clear hbi oi
    by_cases hlt : k < n
    · obtain ⟨a, ha⟩ : ∃ a, X[k]? = some a := ⟨X[k]'(by have := hl.out; omega), List.getElem?_eq_getElem _⟩
      obtain ⟨g, off, A', n', c', rfl, hg, hcw0, hcw1, hn', hm', hf⟩ := HX.out.at' ha
      have HC0 := hide hcw0
      have HC1 := hide hcw1
      have HFw := hide hf.ints
      have hn6 : n' ≤ 6 := by have h1 := idsB_6 (bxsB_bx H1.out (List.mem_of_getElem? ha)).2.1; have h3 := HFw.out.1; omega
      have hc0 : wr.cell? ⟨g, off + k * 2, none⟩ = some (.string a.1) := (hbr.out.cell (p := ⟨g, off + k * 2, none⟩) hg).trans hcw0
      have hc1 : wr.cell? ⟨g, off + k * 2 + 1, none⟩ = some (.slice A' n' c') := (hbr.out.cell (p := ⟨g, off + k * 2 + 1, none⟩) hg).trans hcw1
      have hgl : g < wr.heap.size := by omega
      have hS := bst_succ (s := s) (id := id) ha
      rw [hp.out] at hS
      clear hcw0 hcw1 hf ha
      by_cases he : a.1 = s
      · subst he
        have HSt : Hid (bst a.1 id X (k + 1) = (bxV Y ++ [(a.1, bput a.2 id)], true)) := hS.trans (bstep_2 rfl)
        have hless : Op.bytesLess a.1.toList a.1.toList = false := blt_irrefl a.1
        clear hS
        cases b
        all_goals
          go_wp2_with fail
          refine (s_put A' n' c' a.2 id _ ((HFw.out.below hbr.out).more hsz) (by omega)).mono ?_
          rintro e w6 ⟨v6, rfl, ⟨A6, n6, c6, rfl, own6⟩, hb6⟩
          have hs6 := hb6.size
          have Hb6' := hide hb6
          have Own6 := hide own6
          clear own6 hb6
          go_wp2_with (first
          | (at_builtin
             go_must (refine wpList_append_rd _ rfl (.tmp 57) (.tmp 67) _ rfl w.heap.size 55 i2 _ 2 40 hUB hi2 hz0 hz1 hz2 rfl (by omega) (.slice A4 m c4) m (wcells Y) rfl (((hN.out.below Hb6'.out).row).alloc _) (w6.heap.size + 1) (some ⟨w6.heap.size, 0, none⟩) 1 _ [Value.string a.1, .slice A6 n6 c6] rfl (rd_two _ _ _ _) (by intro u hu; simp at hu; rcases hu with rfl | rfl <;> rfl) (by unfold maxLen; omega) (by omega) (by simp; omega) ?_)
             intro v8 w8 own8 gr8 at8
             go_must (have Hb8 : Hid (Below w.heap.size w w8) := Below.own ((hbr.out.trans (Hb6'.out.mono hsz)).alloc (by omega) _) gr8 (((hN.out.below Hb6'.out).row).alloc _) (Nat.le_refl _) (by simp; omega))
             go_must (obtain ⟨A8, c8, e8, N8⟩ := NestB.snoc hN.out Hb6'.out Own6.out hsz own8 gr8 at8)
             subst e8
             have HN8 := hide N8
             clear gr8 at8 own8 N8)
          | fail)
          go_roundw
          case rel => exact ⟨k + 1, m + 1, A8, c8, _, true, by omega, by go_num, rfl, rfl, by rw [bxV_app]; exact HSt.out, HN8.out, by omega, Hb8.out⟩
          case measure => simp [intOf]; omega
      · have hne := txt_ne he
        cases b
        · cases hb : blt s a.1
          · have HSt : Hid (bst s id X (k + 1) = (bxV Y ++ [a], false)) := hS.trans (bstep_3 (.inr hb) he)
            have hless : Op.bytesLess a.1.toList s.toList = true := by
              cases hb2 : blt a.1 s
              · exact absurd (blt_tri hb2 hb) he
              · exact hb2
            clear hS hb
            go_wp2_with fail
            have own0 : (wr.alloc (.cells #[] 3)).ownsRow wr.heap.size 3 1 (.slice (some ⟨wr.heap.size, 0, none⟩) 0 0) 0 [] := World.ownsRow_lit wr #[] 0 (Nat.le_refl _) (Nat.zero_le _) rfl
            have hbW : Below wr.heap.size wr ((wr.alloc (.cells #[] 3)).drew) := ((Below.refl _ _).alloc (Nat.le_refl _) _).drew
            have Rdx := hide (((HFw.out.below hbr.out).more hbr.out.size).below hbW).rd
            go_region_law (first
              | (refine step_append_rd _ rfl (.tmp 69) (.tmp 83) _ rfl w.heap.size 55 i2 _ 2 40 hUB hi2 hz0 hz1 hz2 rfl (by omega) (.slice A4 m c4) m (wcells Y) rfl (((hN.out.below hb6).row).alloc _) (w6.heap.size + 1) (some ⟨w6.heap.size, 0, none⟩) 1 _ [Value.string a.1, .slice A6 n' c6] rfl (rd_two _ _ _ _) (by intro u hu; simp at hu; rcases hu with rfl | rfl <;> rfl) (by unfold maxLen; omega) (by omega) (by simp; omega) ?_
                 intro v8 w8 own8 gr8 at8
                 have Hb8 : Hid (Below w.heap.size w w8) := Below.own ((hbr.out.trans (hb6.mono hbr.out.size)).alloc (by omega) _) gr8 (((hN.out.below hb6).row).alloc _) (Nat.le_refl _) (by simp; omega)
                 obtain ⟨A8, c8, e8, N8⟩ := NestB.snoc hN.out hb6 own6 hbr.out.size own8 gr8 at8
                 subst e8
                 have HN8 := hide N8
                 clear gr8 at8 own8 N8 own6 hb6)
              | (go_must (refine step_append_rd _ rfl (.tmp 75) (.tmp 80) _ rfl wr.heap.size 3 i1 _ 1 8 hU hi1 hy0 hy1 hy2 rfl (by omega) _ 0 [] rfl (by exact own0.drew) wr.heap.size A' n' c' (a.2.map (Value.int .i64)) rfl (by exact Rdx.out) (one_ints _) (by unfold maxLen; omega) (by omega) (by exact hbW.size) ?_)
                 intro v6 w6 own6 gr6 at6
                 have hb6 : Below wr.heap.size wr w6 := Below.own hbW gr6 own0.drew (Nat.le_refl _) hbW.size
                 have hs6 := hb6.size
                 rw [List.nil_append, Nat.zero_add] at own6
                 obtain ⟨A6, c6, e6⟩ := own_slice own6
                 subst e6
                 have hcn6 : w6.cell? ⟨g, off + k * 2, none⟩ = some (.string a.1) := (hb6.cell (p := ⟨g, off + k * 2, none⟩) hgl).trans hc0
                 have hg6 : g < w6.heap.size := by omega
                 clear gr6 at6)
              | fail)
            all_goals
              go_wp2_with fail
              go_roundw
              case rel => exact ⟨k + 1, m + 1, A8, c8, _, false, by omega, by go_num, rfl, rfl, by rw [bxV_app]; exact HSt.out, HN8.out, by omega, Hb8.out⟩
              case measure => simp [intOf]; omega
          · have HSt : Hid (bst s id X (k + 1) = (bxV Y ++ [(s, [id])] ++ [a], true)) := hS.trans (bstep_1 hb)
            have hless : Op.bytesLess a.1.toList s.toList = false := blt_asymm hb
            clear hS hb
            go_wp2_with (
              (first
               | (at_builtin
                  go_must (refine wpList_append_rd _ rfl (.tmp 43) (.tmp 48) _ rfl w.heap.size 55 i2 _ 2 40 hUB hi2 hz0 hz1 hz2 rfl (by omega) (.slice A4 m c4) m (wcells Y) rfl (((hN.out.below HBI.out).row).alloc _) ((wr.heap.size + 1) + 1) (some ⟨(wr.heap.size + 1), 0, none⟩) 1 _ [Value.string s, (.slice (some ⟨wr.heap.size, 0, none⟩) 1 1)] rfl (rd_two_at _ _ _ _ (by simp)) (by intro u hu; simp at hu; rcases hu with rfl | rfl <;> rfl) (by unfold maxLen; omega) (by omega) (by simp; omega) ?_)
                  intro v9 w9 own9 gr9 at9
                  go_must (have Hb9 : Hid (Below w.heap.size w w9) := Below.own ((hbr.out.trans (HBI.out.mono hbr.out.size)).alloc (by simp; omega) _) gr9 (((hN.out.below HBI.out).row).alloc _) (Nat.le_refl _) (by simp; omega))
                  go_must (obtain ⟨A9, c9, e9, N9⟩ := NestB.snoc hN.out HBI.out OI.out hbr.out.size own9 gr9 at9)
                  go_must (subst e9)
                  go_must (have HN9 := hide N9)
                  go_must (have hs9 := Hb9.out.size)
                  (have hd0 : w9.cell? ⟨g, off + k * 2, none⟩ = some (.string a.1) := (Hb9.out.cell (p := ⟨g, off + k * 2, none⟩) hg).trans HC0.out)
                  clear gr9 at9 own9 N9)
               | fail)
              )
            have hd1 : w9.cell? ⟨g, off + k * 2 + 1, none⟩ = some (.slice A' n' c') := (Hb9.out.cell (p := ⟨g, off + k * 2 + 1, none⟩) hg).trans HC1.out
            have hgl9 : g < w9.heap.size := by omega
            have own0 : (w9.alloc (.cells #[] 3)).ownsRow w9.heap.size 3 1 (.slice (some ⟨w9.heap.size, 0, none⟩) 0 0) 0 [] := World.ownsRow_lit w9 #[] 0 (Nat.le_refl _) (Nat.zero_le _) rfl
            have hbW : Below w9.heap.size w9 ((w9.alloc (.cells #[] 3)).drew) := ((Below.refl _ _).alloc (Nat.le_refl _) _).drew
            have Rdx := hide (((HFw.out.below Hb9.out).more Hb9.out.size).below hbW).rd
            go_region_law (first
              | (refine step_append_rd _ rfl (.tmp 69) (.tmp 83) _ rfl w.heap.size 55 i2 _ 2 40 hUB hi2 hz0 hz1 hz2 rfl (by omega) (.slice A9 (m + 1) c9) (m + 1) (wcells (Y ++ [(s, [id], .slice (some ⟨wr.heap.size, 0, none⟩) 1 1)])) rfl (((HN9.out.below hb6).row).alloc _) (w6.heap.size + 1) (some ⟨w6.heap.size, 0, none⟩) 1 _ [Value.string a.1, .slice A6 n' c6] rfl (rd_two _ _ _ _) (by intro u hu; simp at hu; rcases hu with rfl | rfl <;> rfl) (by unfold maxLen; omega) (by omega) (by simp; omega) ?_
                 intro v8 w8 own8 gr8 at8
                 have Hb8 : Hid (Below w.heap.size w w8) := Below.own ((Hb9.out.trans (hb6.mono Hb9.out.size)).alloc (by omega) _) gr8 (((HN9.out.below hb6).row).alloc _) (Nat.le_refl _) (by simp; omega)
                 obtain ⟨A8, c8, e8, N8⟩ := NestB.snoc HN9.out hb6 own6 Hb9.out.size own8 gr8 at8
                 subst e8
                 have HN8 := hide N8
                 clear gr8 at8 own8 N8 own6 hb6)
              | (go_must (refine step_append_rd _ rfl (.tmp 75) (.tmp 80) _ rfl w9.heap.size 3 i1 _ 1 8 hU hi1 hy0 hy1 hy2 rfl (by omega) _ 0 [] rfl (by exact own0.drew) w9.heap.size A' n' c' (a.2.map (Value.int .i64)) rfl (by exact Rdx.out) (one_ints _) (by unfold maxLen; omega) (by omega) (by exact hbW.size) ?_)
                 intro v6 w6 own6 gr6 at6
                 have hb6 : Below w9.heap.size w9 w6 := Below.own hbW gr6 own0.drew (Nat.le_refl _) hbW.size
                 have hs6 := hb6.size
                 rw [List.nil_append, Nat.zero_add] at own6
                 obtain ⟨A6, c6, e6⟩ := own_slice own6
                 subst e6
                 have hcn6 : w6.cell? ⟨g, off + k * 2, none⟩ = some (.string a.1) := (hb6.cell (p := ⟨g, off + k * 2, none⟩) hgl9).trans hd0
                 have hg6 : g < w6.heap.size := by omega
                 clear gr6 at6)
              | fail)
            all_goals
              go_wp2_with fail
              go_roundw
              case rel => exact ⟨k + 1, m + 2, A8, c8, _, true, by omega, by go_num, rfl, rfl, by rw [bxV_app, bxV_app]; exact HSt.out, HN8.out, by omega, Hb8.out⟩
              case measure => simp [intOf]; omega
        · have HSt : Hid (bst s id X (k + 1) = (bxV Y ++ [a], true)) := hS.trans (bstep_3 (.inl rfl) he)
          clear hS
          go_wp2_with fail
          have own0 : (wr.alloc (.cells #[] 3)).ownsRow wr.heap.size 3 1 (.slice (some ⟨wr.heap.size, 0, none⟩) 0 0) 0 [] := World.ownsRow_lit wr #[] 0 (Nat.le_refl _) (Nat.zero_le _) rfl
          have hbW : Below wr.heap.size wr ((wr.alloc (.cells #[] 3)).drew) := ((Below.refl _ _).alloc (Nat.le_refl _) _).drew
          have Rdx := hide (((HFw.out.below hbr.out).more hbr.out.size).below hbW).rd
          go_region_law (first
            | (refine step_append_rd _ rfl (.tmp 69) (.tmp 83) _ rfl w.heap.size 55 i2 _ 2 40 hUB hi2 hz0 hz1 hz2 rfl (by omega) (.slice A4 m c4) m (wcells Y) rfl (((hN.out.below hb6).row).alloc _) (w6.heap.size + 1) (some ⟨w6.heap.size, 0, none⟩) 1 _ [Value.string a.1, .slice A6 n' c6] rfl (rd_two _ _ _ _) (by intro u hu; simp at hu; rcases hu with rfl | rfl <;> rfl) (by unfold maxLen; omega) (by omega) (by simp; omega) ?_
               intro v8 w8 own8 gr8 at8
               have Hb8 : Hid (Below w.heap.size w w8) := Below.own ((hbr.out.trans (hb6.mono hbr.out.size)).alloc (by omega) _) gr8 (((hN.out.below hb6).row).alloc _) (Nat.le_refl _) (by simp; omega)
               obtain ⟨A8, c8, e8, N8⟩ := NestB.snoc hN.out hb6 own6 hbr.out.size own8 gr8 at8
               subst e8
               have HN8 := hide N8
               clear gr8 at8 own8 N8 own6 hb6)
            | (go_must (refine step_append_rd _ rfl (.tmp 75) (.tmp 80) _ rfl wr.heap.size 3 i1 _ 1 8 hU hi1 hy0 hy1 hy2 rfl (by omega) _ 0 [] rfl (by exact own0.drew) wr.heap.size A' n' c' (a.2.map (Value.int .i64)) rfl (by exact Rdx.out) (one_ints _) (by unfold maxLen; omega) (by omega) (by exact hbW.size) ?_)
               intro v6 w6 own6 gr6 at6
               have hb6 : Below wr.heap.size wr w6 := Below.own hbW gr6 own0.drew (Nat.le_refl _) hbW.size
               have hs6 := hb6.size
               rw [List.nil_append, Nat.zero_add] at own6
               obtain ⟨A6, c6, e6⟩ := own_slice own6
               subst e6
               have hcn6 : w6.cell? ⟨g, off + k * 2, none⟩ = some (.string a.1) := (hb6.cell (p := ⟨g, off + k * 2, none⟩) hgl).trans hc0
               have hg6 : g < w6.heap.size := by omega
               clear gr6 at6)
            | fail)
          all_goals
            go_wp2_with fail
            go_roundw
            case rel => exact ⟨k + 1, m + 1, A8, c8, _, true, by omega, by go_num, rfl, rfl, by rw [bxV_app]; exact HSt.out, HN8.out, by omega, Hb8.out⟩
            case measure => simp [intOf]; omega
    · have hkn : k = X.length := by have := hl.out; omega
      cases b
      · have HB : Hid (bsput X s id = bxV Y ++ [(s, [id])]) := by show _ = _; unfold bsput; rw [← hkn, hp.out]; simp
        go_wp2_with (
          (first
           | (at_builtin
              go_must (refine wpList_append_rd _ rfl (.tmp 87) (.tmp 92) _ rfl w.heap.size 55 i2 _ 2 40 hUB hi2 hz0 hz1 hz2 rfl (by omega) (.slice A4 m c4) m (wcells Y) rfl (((hN.out.below HBI.out).row).alloc _) ((wr.heap.size + 1) + 1) (some ⟨(wr.heap.size + 1), 0, none⟩) 1 _ [Value.string s, (.slice (some ⟨wr.heap.size, 0, none⟩) 1 1)] rfl (rd_two_at _ _ _ _ (by simp)) (by intro u hu; simp at hu; rcases hu with rfl | rfl <;> rfl) (by unfold maxLen; omega) (by omega) (by simp; omega) ?_)
              intro v9 w9 own9 gr9 at9
              go_must (have Hb9 : Hid (Below w.heap.size w w9) := Below.own ((hbr.out.trans (HBI.out.mono hbr.out.size)).alloc (by simp; omega) _) gr9 (((hN.out.below HBI.out).row).alloc _) (Nat.le_refl _) (by simp; omega))
              go_must (obtain ⟨A9, c9, e9, N9⟩ := NestB.snoc hN.out HBI.out OI.out hbr.out.size own9 gr9 at9)
              go_must (subst e9)
              go_must (have HN9 := hide N9)
              go_must (have hs9 := Hb9.out.size)
              skip
              clear gr9 at9 own9 N9)
           | fail)
          )
        have HYe : Hid (bxV (Y ++ [(s, [id], .slice (some ⟨wr.heap.size, 0, none⟩) 1 1)]) = bsput X s id) := by show _ = _; rw [HB.out, bxV_app]; rfl
        refine (s_Bs A9 (m + 1) c9 _ _ (HYe.out ▸ HN9.out.bxs) HSY.out (by unfold maxLen; omega)).mono ?_
        rintro e w5 ⟨rfl, hb5⟩
        have Hb5 := hide (Hb9.out.trans (hb5.mono hs9))
        have HN5 := hide (HN9.out.below hb5)
        clear hb5
        cases hv : bxsB (bsput X s id)
        · have H : Hid (bsPutM X s id = none) := bsPutM_4 hv
          clear hv
          go_wp2_with fail
          go_ret2
          exact ⟨_, by rw [H.out]; rfl, by rw [H.out]; exact Hempty.out _ Hb5.out, Hb5.out.alloc Hb5.out.size _⟩
        · have H : Hid (bsPutM X s id = some (bsput X s id)) := bsPutM_t H1.out H2.out H3.out hv
          clear hv
          go_wp2_with fail
          go_ret2
          exact ⟨_, by rw [H.out]; rfl, by rw [H.out]; exact ⟨_, _, _, _, rfl, HYe.out, HN5.out⟩, Hb5.out⟩
      · have HYe : Hid (bxV Y = bsput X s id) := by show _ = _; unfold bsput; rw [← hkn, hp.out]; simp
        go_wp2_with fail
        refine (s_Bs A4 m c4 _ _ (HYe.out ▸ hN.out.bxs) HSY.out (by unfold maxLen; omega)).mono ?_
        rintro e w5 ⟨rfl, hb5⟩
        have Hb5 := hide (hbr.out.trans (hb5.mono hsz))
        have HN5 := hide (hN.out.below hb5)
        clear hb5
        cases hv : bxsB (bsput X s id)
        · have H : Hid (bsPutM X s id = none) := bsPutM_4 hv
          clear hv
          go_wp2_with fail
          go_ret2
          exact ⟨_, by rw [H.out]; rfl, by rw [H.out]; exact Hempty.out _ Hb5.out, Hb5.out.alloc Hb5.out.size _⟩
        · have H : Hid (bsPutM X s id = some (bsput X s id)) := bsPutM_t H1.out H2.out H3.out hv
          clear hv
          go_wp2_with fail
          go_ret2
          exact ⟨_, by rw [H.out]; rfl, by rw [H.out]; exact ⟨_, _, _, _, rfl, HYe.out, HN5.out⟩, Hb5.out⟩
end Go.Proofs.Ytimpmlmkhjeajaa
