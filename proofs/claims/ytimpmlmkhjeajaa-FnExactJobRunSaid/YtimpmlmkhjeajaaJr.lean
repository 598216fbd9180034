/- l5Copy, JobRun of the spec. -/
import Derived.Test.YtimpmlmkhjeajaaJn
import Derived.Test.YtimpmlmkhjeajaaBsp
set_option linter.unusedVariables false
set_option linter.unusedSimpArgs false
namespace Go.Proofs.Ytimpmlmkhjeajaa
open Go.RowKit

theorem l5_first {wr w6 : World} {m n' : Nat} {v6 : Value} {L : List Int} (own6 : w6.ownsRow wr.heap.size 3 1 v6 (0 + n') (([] : List Int).map (Value.int .i64) ++ L.map (Value.int .i64))) (gr6 : ((wr.alloc (.cells #[] 3)).drew).grownBy w6 (Value.slice (some ⟨wr.heap.size, 0, none⟩) 0 0).ownBlock) :
    (∃ A6 c6, v6 = .slice A6 n' c6 ∧ w6.ownsRow wr.heap.size 3 1 (.slice A6 n' c6) n' (L.map (Value.int .i64))) ∧ Below wr.heap.size wr w6 := by
  have h0 : ((wr.alloc (.cells #[] 3)).drew).ownsRow wr.heap.size 3 1 (.slice (some ⟨wr.heap.size, 0, none⟩) 0 0) 0 (([] : List Int).map (Value.int .i64)) := (World.ownsRow_lit wr #[] 0 (Nat.le_refl _) (Nat.zero_le _) rfl : (wr.alloc (.cells #[] 3)).ownsRow wr.heap.size 3 1 (.slice (some ⟨wr.heap.size, 0, none⟩) 0 0) 0 []).drew
  rw [Nat.zero_add, List.map_nil, List.nil_append] at own6
  obtain ⟨A6, c6, rfl⟩ := own_slice own6
  exact ⟨⟨A6, c6, rfl, own6⟩, Below.own (((Below.refl _ _).alloc (Nat.le_refl _) _).drew) gr6 h0 (Nat.le_refl _) (by simp)⟩

set_option maxHeartbeats 4000000 in
set_option maxRecDepth 100000 in
theorem s_l5Copy (A : Option Addr) (n c : Nat) (X : List Bx) (w : World) (hX : Bxs w w.heap.size A n X) (hn : n ≤ 10) (h6 : ∀ a ∈ X, a.2.length ≤ 6) :
    Calls Try.prog 77 #[.slice A n c] w fun e w' => ∃ v, e = .returned v ∧ OwnB w.heap.size w' v X ∧ Below w.heap.size w w' := by
  obtain ⟨i1, hi1, hy0, hy1, hy2⟩ := info_parts' int_info
  have hU := Try.underlying47
  obtain ⟨i2, hi2, hz0, hz1, hz2⟩ := info_parts' box_info
  have hUB := Try.underlying41
  have hl := hide hX.1
  have HX := hide hX
  have H6 := hide h6
  have H0 : Hid (NestB w.heap.size (w.alloc (.cells #[] 55)) (some ⟨w.heap.size, 0, none⟩) 0 0 []) := ⟨World.ownsRow_lit w #[] 0 (Nat.le_refl _) (Nat.zero_le _) rfl, fun y h => (by cases h), fun y h => (by cases h), List.Pairwise.nil⟩
  have Hb0 := hide ((Below.refl w.heap.size w).alloc (Nat.le_refl _) (.cells #[] 55))
  clear hX h6
  go_enter Try.func77, Try.ntmps77
  go_wp2_with fail
  go_loopw [3, 4] (fun u i wr => ∃ (k : Nat) (A4 : Option Addr) (c4 : Nat) (Y : List BxV), k ≤ n ∧ i = .int .i64 k ∧ u = .slice A4 k c4 ∧ Hid (bxV Y = X.take k) ∧ Hid (NestB w.heap.size wr A4 k c4 Y) ∧ Hid (Below w.heap.size w wr)) (fun _ i _ => n - (intOf i).toNat)
  case atStart => exact ⟨0, _, _, [], Nat.zero_le _, rfl, rfl, rfl, H0.out, Hb0.out⟩
  case round =>
    obtain ⟨k, A4, c4, Y, hk, rfl, rfl, hY, hN, hbr⟩ := hrel
    have hsz := hbr.out.size
    by_cases hlt : k < n
    · obtain ⟨a, ha⟩ : ∃ a, X[k]? = some a := ⟨X[k]'(by have := hl.out; omega), List.getElem?_eq_getElem _⟩
      obtain ⟨g, off, A', n', c', rfl, hg, hc0, hc1, hn', hm', hf⟩ := (HX.out.below hbr.out).at' ha
      have HF : Hid (Ints wr w.heap.size A' n' a.2) := hf.ints
      have hn6 : n' ≤ 6 := by have h1 := H6.out a (List.mem_of_getElem? ha); have h3 := HF.out.1; omega
      have HY2 : Hid (∀ v, bxV (Y ++ [(a.1, a.2, v)]) = X.take (k + 1)) := fun v => by rw [bxV_app, hY.out, List.take_add_one, ha]; rfl
      have hgw : g < wr.heap.size := by omega
      have own0 : Hid (((wr.alloc (.cells #[] 3)).drew).ownsRow wr.heap.size 3 1 (.slice (some ⟨wr.heap.size, 0, none⟩) 0 0) 0 (([] : List Int).map (Value.int .i64))) := (World.ownsRow_lit wr #[] 0 (Nat.le_refl _) (Nat.zero_le _) rfl : (wr.alloc (.cells #[] 3)).ownsRow wr.heap.size 3 1 (.slice (some ⟨wr.heap.size, 0, none⟩) 0 0) 0 []).drew
      have hbW : Below wr.heap.size wr ((wr.alloc (.cells #[] 3)).drew) := ((Below.refl _ _).alloc (Nat.le_refl _) _).drew
      have Rdx := hide (((HF.out.below (hbW.mono hsz)).more (show w.heap.size ≤ wr.heap.size from hsz)).rd)
      have HbW := hide hbW
      have HC0 := hide hc0
      have HC1 := hide hc1
      clear hf ha hbW
      go_wp2_with fail
      go_region_held3 (fun w' => w'.cell? ⟨g, off + k * 2, none⟩ = some (.string a.1) ∧ w'.cell? ⟨g, off + k * 2 + 1, none⟩ = some (.slice A' n' c')) (first | exact ⟨hd0, hd1⟩ | go_keep) (first
        | (refine step_append_rd _ rfl (.tmp 18) (.tmp 23) _ rfl wr.heap.size 3 i1 _ 1 8 hU hi1 hy0 hy1 hy2 rfl (by omega) (.slice (some ⟨wr.heap.size, 0, none⟩) 0 0) 0 (([] : List Int).map (Value.int .i64)) rfl (by exact own0.out) wr.heap.size A' n' c' (a.2.map (Value.int .i64)) rfl (by exact Rdx.out) (one_ints _) (by unfold maxLen; omega) (by omega) (by exact HbW.out.size) ?_
           intro v6 w6 own6 gr6 at6
           obtain ⟨⟨A6, c6, e6, ho6⟩, hb6⟩ := l5_first (m := 0) own6 gr6
           subst e6
           have Own6 := hide ho6
           have Hb6 := hide hb6
           have hd0 : w6.cell? ⟨g, off + k * 2, none⟩ = some (.string a.1) := (hb6.cell (p := ⟨g, off + k * 2, none⟩) hgw).trans HC0.out
           have hd1 : w6.cell? ⟨g, off + k * 2 + 1, none⟩ = some (.slice A' n' c') := (hb6.cell (p := ⟨g, off + k * 2 + 1, none⟩) hgw).trans HC1.out
           have hs6 := hb6.size
           clear own6 gr6 at6 ho6 hb6)
        | (refine step_append_rd _ rfl (.tmp 12) (.tmp 26) _ rfl w.heap.size 55 i2 _ 2 40 hUB hi2 hz0 hz1 hz2 rfl (by omega) (.slice A4 k c4) k (wcells Y) rfl (((hN.out.below Hb6.out).row).alloc _) (w6.heap.size + 1) (some ⟨w6.heap.size, 0, none⟩) 1 _ [Value.string a.1, .slice A6 n' c6] rfl (rd_two _ _ _ _) (by intro u hu; simp at hu; rcases hu with rfl | rfl <;> rfl) (by unfold maxLen; omega) (by omega) (by simp; omega) ?_
           intro v8 w8 own8 gr8 at8
           have Hb8 : Hid (Below w.heap.size w w8) := Below.own ((hbr.out.trans (Hb6.out.mono hsz)).alloc (by omega) _) gr8 (((hN.out.below Hb6.out).row).alloc _) (Nat.le_refl _) (by simp; omega)
           obtain ⟨A8, c8, e8, N8⟩ := NestB.snoc hN.out Hb6.out Own6.out hsz own8 gr8 at8
           subst e8
           have HN8 := hide N8
           have hd0 : w8.cell? ⟨g, off + k * 2, none⟩ = some (.string a.1) := ((Hb8.out.cell (p := ⟨g, off + k * 2, none⟩) hg).trans ((hbr.out.cell (p := ⟨g, off + k * 2, none⟩) hg).symm)).trans HC0.out
           have hd1 : w8.cell? ⟨g, off + k * 2 + 1, none⟩ = some (.slice A' n' c') := ((Hb8.out.cell (p := ⟨g, off + k * 2 + 1, none⟩) hg).trans ((hbr.out.cell (p := ⟨g, off + k * 2 + 1, none⟩) hg).symm)).trans HC1.out
           clear own8 gr8 at8 N8)
        | fail)
      all_goals
        go_wp2_with fail
        go_roundw
        case rel => exact ⟨k + 1, A8, c8, _, by omega, by go_num, rfl, HY2.out _, HN8.out, Hb8.out⟩
        case measure => simp [intOf]; omega
    · have hkn : k = n := by omega
      subst hkn
      have HY2 : Hid (bxV Y = X) := by show _ = _; rw [hY.out, List.take_of_length_le (by have := hl.out; omega)]
      go_wp2_with fail
      go_ret
      exact ⟨_, rfl, ⟨_, _, _, Y, rfl, HY2.out, hN.out⟩, hbr.out⟩

/-- Boxes that no longer change. -/
theorem OwnB.below {base : Nat} {w w' : World} {v : Value} {X : List Bx} (h : OwnB base w v X) (hb : Below w.heap.size w w') : OwnB base w' v X := by
  obtain ⟨A, n, c, Y, rfl, h1, h2⟩ := h
  exact ⟨A, n, c, Y, rfl, h1, h2.below hb⟩
theorem OwnB.down {base base' : Nat} {w : World} {v : Value} {X : List Bx} (h : OwnB base w v X) (hb : base' ≤ base) : OwnB base' w v X := by
  obtain ⟨A, n, c, Y, rfl, h1, h2⟩ := h
  exact ⟨A, n, c, Y, rfl, h1, h2.down hb⟩
theorem bxs_small' {X : List Bx} (h : bxsB X = true) : BSmall X := fun a ha => by have := nvB_size (bxsB_bx h ha).1; unfold maxLen; omega
theorem nsB_at {L : List ByteArray} (h : nsB L = true) {s : ByteArray} (hs : s ∈ L) : s.size ≤ maxLen := nsB_small h s hs
theorem jNms_mem {j : Jb} {many : Int} {s : ByteArray} (h : s ∈ jNms j many) : s ∈ j.2.1 := List.mem_of_mem_take (List.mem_of_mem_drop h)

theorem jrun_end {w w1 wr : World} {p n4 c4 m1 d1 : Nat} {x1 x3 : Int} {x2 : List ByteArray} {A4 B1 : Option Addr} {O : List Bx} {T : TypeId} {cs : Array Value} (hO : OwnB (w1.heap.size + 1) wr (.slice A4 n4 c4) O) (hJ : w1.ownsRow (w.heap.size + 1 + 1) 9 1 (.slice B1 m1 d1) m1 (x2.map Value.string)) (hw : Below w1.heap.size w1 wr)
    (hB : Blk wr p T cs) (hp : p = w.heap.size + 1) (hp1 : p < w1.heap.size) (hb : Below w.heap.size w wr) :
    Own3B w (some (O, (x1, x2, x3))) (.returned (.tuple #[.slice A4 n4 c4, .agg #[.int .i64 x1, .slice B1 m1 d1, .int .i64 x3], .bool true])) ((((wr.drewN 1).setCell ⟨p, 0, none⟩ (.int .i64 x1)).setCell ⟨p, 1, none⟩ (.slice B1 m1 d1)).setCell ⟨p, 2, none⟩ (.int .i64 x3)) := by
  obtain ⟨A, n, c, Y, e, h1, h2⟩ := hO
  injection e with e1 e2 e3
  subst e1 e2 e3
  have hJr : wr.ownsRow (w.heap.size + 1 + 1) 9 1 (.slice B1 m1 d1) m1 (x2.map Value.string) := hJ.kept (row := none) (grown_of_below hw) (by cases hh : (Value.slice B1 m1 d1).ownBlock <;> simp)
  refine ⟨_, _, _, Y, _, _, _, rfl, h1, (nest_job (h2.drewN 1) (by omega) _ _ _).down (by omega), own_job ((own_base hJr (by omega) : wr.ownsRow w.heap.size _ _ _ _ _)) (fun e => by have := (hJr.lt p e).1; omega) _ _ _, fun b hb1 e => ?_, below_job (below_drewN hb 1) (by omega) _ _ _⟩
  have h3 := (h2.lt hb1).1
  have h4 := (hJ.lt b e).2
  omega

set_option maxHeartbeats 4000000 in
set_option maxRecDepth 100000 in
theorem s_JobRun (A0 : Option Addr) (n0 c0 : Nat) (X : List Bx) (i d many : Int) (A : Option Addr) (n c : Nat) (L : List ByteArray) (w : World) (hX : Bxs w w.heap.size A0 n0 X) (hSX : BSmall X) (hn0 : n0 ≤ maxLen) (hL : Strs w w.heap.size A n L) (hS : Small L) (hn : n ≤ maxLen) (hnc : n ≤ c) :
    Calls Try.prog 31 #[.slice A0 n0 c0, .agg #[.int .i64 i, .slice A n c, .int .i64 d], .int .i64 many] w fun e w' => Own3B w (jRunM X (i, L, d) many) e w' := by
  have HN := hide hn
  have HN0 := hide hn0
  have hl0 := hide hX.1
  have HS := hide hS
  have HSX := hide hSX
  have HA0 := hide ((Blk.new w 28 #[.int .i64 i, .slice A n c, .int .i64 d]).alloc (.cells #[.int .i64 0, .slice none 0 0, .int .i64 0] 28))
  have hB0 := Blk.new (w.alloc (.cells #[.int .i64 i, .slice A n c, .int .i64 d] 28)) 28 #[.int .i64 0, .slice none 0 0, .int .i64 0]
  rw [World.size_alloc] at hB0
  have HB0 := hide hB0
  have hb0 : Below w.heap.size w ((w.alloc (.cells #[.int .i64 i, .slice A n c, .int .i64 d] 28)).alloc (.cells #[.int .i64 0, .slice none 0 0, .int .i64 0] 28)) := ((Below.refl _ _).alloc (Nat.le_refl _) _).alloc (by simp) _
  have hs0 : ((w.alloc (.cells #[.int .i64 i, .slice A n c, .int .i64 d] 28)).alloc (.cells #[.int .i64 0, .slice none 0 0, .int .i64 0] 28)).heap.size = w.heap.size + 1 + 1 := by simp
  have hle : w.heap.size ≤ ((w.alloc (.cells #[.int .i64 i, .slice A n c, .int .i64 d] 28)).alloc (.cells #[.int .i64 0, .slice none 0 0, .int .i64 0] 28)).heap.size := by rw [hs0]; omega
  have HL0 := hide ((hL.below hb0).more hle)
  have HX0 := hide ((hX.below hb0).up hle)
  have Hb0 := hide hb0
  have Hs0 := hide hs0
  obtain ⟨⟨a00, a01, a02⟩, _⟩ := HA0.out.cells3
  clear hL hS hb0 hs0 hB0 hX hSX hn hn0 hle
  go_enter Try.func31, Try.ntmps31
  go_wp2_with fail
  refine (s_JobNext i d many A n c L _ HL0.out HS.out HN.out hnc).mono ?_
  rintro e w1 ⟨A1, n1, c1, B1, m1, d1, rfl, ownN, ownJ, hne1, hb1⟩
  have HA1 := hide (HA0.out.below hb1 (by rw [Hs0.out]; omega))
  have HB1 := hide (HB0.out.below hb1 (by rw [Hs0.out]; omega))
  have Hb1 := hide (Hb0.out.trans (hb1.mono (by rw [Hs0.out]; omega)))
  have hs1 : w.heap.size + 1 + 1 ≤ w1.heap.size := by have h := hb1.size; rw [Hs0.out] at h; exact h
  have HX1 := hide (HX0.out.on hb1)
  rw [Hs0.out] at ownN ownJ
  have OwnN := hide ownN
  have OwnJ' := hide ownJ
  clear hb1 a00 a01 a02 ownN ownJ hne1
  cases hj : jNextM (i, L, d) many with
  | none =>
    have H : Hid (jRunM X (i, L, d) many = none) := jRun_1 hj
    have HJ := hide hj
    have HBW := hide (HB1.out.alloc (.cells #[.int .i64 0, .slice B1 m1 d1, .int .i64 0] 28))
    have HbW := hide (Hb1.out.alloc (by omega) (.cells #[.int .i64 0, .slice B1 m1 d1, .int .i64 0] 28))
    have hsW : w1.heap.size + 1 = (w1.alloc (.cells #[.int .i64 0, .slice B1 m1 d1, .int .i64 0] 28)).heap.size := by simp
    have HsW := hide hsW
    clear hj hsW
    simp only [Option.getD_none, jb0]
    obtain ⟨⟨g0, g1, g2⟩, k0, k1, k2⟩ := (HBW.out.alloc (.cells #[] 55)).cells3
    have HBe := (HBW.out.alloc (.cells #[] 55)).job (a' := .int .i64 0) (b' := .slice none 0 0) (d' := .int .i64 0)
    obtain ⟨⟨e0, e1, e2⟩, _⟩ := HBe.cells3
    have hxr : ((w1.alloc (.cells #[.int .i64 0, .slice B1 m1 d1, .int .i64 0] 28)).alloc (.cells #[] 55)).ownsRow w1.heap.size 55 2 (.slice (some ⟨(w1.alloc (.cells #[.int .i64 0, .slice B1 m1 d1, .int .i64 0] 28)).heap.size, 0, none⟩) 0 0) 0 (wcells []) := World.ownsRow_lit (w1.alloc (.cells #[.int .i64 0, .slice B1 m1 d1, .int .i64 0] 28)) #[] 0 (by have := HsW.out; omega) (Nat.zero_le _) rfl
    rw [(show _ = _ from HsW.out.symm)] at hxr
    have hx : NestB w1.heap.size ((w1.alloc (.cells #[.int .i64 0, .slice B1 m1 d1, .int .i64 0] 28)).alloc (.cells #[] 55)) (some ⟨(w1.heap.size + 1), 0, none⟩) 0 0 [] := ⟨hxr, fun y h => (by cases h), fun y h => (by cases h), List.Pairwise.nil⟩
    have Hx := hide ((nest_job (p := w.heap.size + 1) hx (by omega) (.int .i64 0) (.slice none 0 0) (.int .i64 0)).down (show w.heap.size ≤ w1.heap.size by omega))
    have Hbe := hide (below_job (p := w.heap.size + 1) (HbW.out.alloc (by have := HsW.out; omega) (.cells #[] 55)) (by omega) (.int .i64 0) (.slice none 0 0) (.int .i64 0))
    clear HBe hx hxr
    go_wp2_with fail
    exact bodyPost_ret (v := .tuple #[.slice (some ⟨(w1.heap.size + 1), 0, none⟩) 0 0, .agg #[.int .i64 0, .slice none 0 0, .int .i64 0], .bool false]) (by simp [results, Try.results31, go_sem, e0, e1, e2]) rfl (by rw [H.out]; exact ⟨_, _, _, [], none, 0, 0, rfl, rfl, Hx.out, World.ownsRow_nil _ _ _ _, fun b _ e => by simp [Value.ownBlock] at e, Hbe.out⟩)
  | some r =>
    obtain ⟨N, x1, x2, x3⟩ := r
    have HJ := hide (jNext_some hj)
    have Hj := hide hj
    have OwnN2 : Hid (w1.ownsRow (w.heap.size + 1 + 1) 9 1 (.slice A1 n1 c1) n1 (N.map Value.string)) := by have h := OwnN.out; rw [hj] at h; exact h
    have OwnJ2 : Hid (w1.ownsRow (w.heap.size + 1 + 1) 9 1 (.slice B1 m1 d1) m1 (x2.map Value.string)) := by have h := OwnJ'.out; rw [hj] at h; exact h
    clear OwnN OwnJ' hj
    have hbq := (Below.refl w1.heap.size w1).alloc (Nat.le_refl _) (.cells #[.int .i64 x1, .slice B1 m1 d1, .int .i64 x3] 28)
    have hsW : (w1.alloc (.cells #[.int .i64 x1, .slice B1 m1 d1, .int .i64 x3] 28)).heap.size = w1.heap.size + 1 := by simp
    have HXW := hide (HX1.out.on hbq)
    have HQW := hide (Blk.new w1 28 #[.int .i64 x1, .slice B1 m1 d1, .int .i64 x3])
    have Hbq := hide hbq
    have HsW := hide hsW
    clear hbq hsW
    go_wp2_with fail
    refine (s_Bs A0 n0 c0 X _ HXW.out HSX.out HN0.out).mono ?_
    rintro e w2 ⟨rfl, hb2⟩
    rw [HsW.out] at hb2
    have hs2 : w1.heap.size + 1 ≤ w2.heap.size := by have h := hb2.size; rw [HsW.out] at h; exact h
    have Hb2 := hide hb2
    have Hw2 := hide (Hbq.out.trans (hb2.mono (Nat.le_succ _)))
    have HB2 := hide (HB1.out.below Hw2.out (by omega))
    have Hb2' := hide (Hb1.out.trans (Hw2.out.mono (by omega)))
    have HX2 := hide (HX1.out.on Hw2.out)
    clear hb2
    cases hB : bxsB X
    · have H : Hid (jRunM X (i, L, d) many = none) := jRun_2 hB
      clear hB
      obtain ⟨⟨g0, g1, g2⟩, k0, k1, k2⟩ := (HB2.out.alloc (.cells #[] 55)).cells3
      have HBe := (HB2.out.alloc (.cells #[] 55)).job (a' := .int .i64 0) (b' := .slice none 0 0) (d' := .int .i64 0)
      obtain ⟨⟨e0, e1, e2⟩, _⟩ := HBe.cells3
      have hxr : (w2.alloc (.cells #[] 55)).ownsRow w1.heap.size 55 2 (.slice (some ⟨w2.heap.size, 0, none⟩) 0 0) 0 (wcells []) := World.ownsRow_lit w2 #[] 0 (by have := hs2; omega) (Nat.zero_le _) rfl
      rw [(rfl : w2.heap.size = w2.heap.size)] at hxr
      have hx : NestB w1.heap.size (w2.alloc (.cells #[] 55)) (some ⟨w2.heap.size, 0, none⟩) 0 0 [] := ⟨hxr, fun y h => (by cases h), fun y h => (by cases h), List.Pairwise.nil⟩
      have Hx := hide ((nest_job (p := w.heap.size + 1) hx (by omega) (.int .i64 0) (.slice none 0 0) (.int .i64 0)).down (show w.heap.size ≤ w1.heap.size by omega))
      have Hbe := hide (below_job (p := w.heap.size + 1) (Hb2'.out.alloc (by have := hs2; omega) (.cells #[] 55)) (by omega) (.int .i64 0) (.slice none 0 0) (.int .i64 0))
      clear HBe hx hxr
      go_wp2_with fail
      exact bodyPost_ret (v := .tuple #[.slice (some ⟨w2.heap.size, 0, none⟩) 0 0, .agg #[.int .i64 0, .slice none 0 0, .int .i64 0], .bool false]) (by simp [results, Try.results31, go_sem, e0, e1, e2]) rfl (by rw [H.out]; exact ⟨_, _, _, [], none, 0, 0, rfl, rfl, Hx.out, World.ownsRow_nil _ _ _ _, fun b _ e => by simp [Value.ownBlock] at e, Hbe.out⟩)
    have HB := hide hB
    have hn10 : n0 ≤ 10 := by have h := bxsB_10 hB; have := hl0.out; omega
    clear hB
    go_wp2_with fail
    refine (s_l5Copy A0 n0 c0 X w2 HX2.out hn10 (fun a ha => idsB_6 (bxsB_bx HB.out ha).2.1)).mono ?_
    rintro e w3 ⟨v3, rfl, ⟨A3, n3, c3, Y3, rfl, hY3, hN3⟩, hb3⟩
    have HO3 : Hid (OwnB (w1.heap.size + 1) w3 (.slice A3 n3 c3) X) := ⟨A3, n3, c3, Y3, rfl, hY3, hN3.down hs2⟩
    have Hb3 := hide (Hb2.out.trans (hb3.mono hs2))
    have hln := hide (Strs.of_own OwnN2.out).1
    have HNm := hide (Strs.of_own OwnN2.out)
    have HnsN := hide (fun (s : ByteArray) (hs : s ∈ N) => nsB_at (jbB_iff.1 HJ.out.v).2.1 (jNms_mem (HJ.out.nm ▸ hs)))
    have hn1 : n1 ≤ 10 := by
      have h1 := HJ.out.len
      have h2 := jEnd_le (i, L, d) many
      have h3 := jb_10 HJ.out.v
      have h4 := hln.out
      simp only at h2 h3
      omega
    clear hY3 hN3 hb3
    go_wp2_with fail
    go_loopw [12, 13, 14, 15] (fun out i' _ _ wr => ∃ (k : Nat) (A4 : Option Addr) (n4 c4 : Nat) (O : List Bx), k ≤ n1 ∧ i' = .int .i64 k ∧ out = .slice A4 n4 c4 ∧ Hid (OwnB (w1.heap.size + 1) wr (.slice A4 n4 c4) O) ∧ Hid (runB i (N.take k) X = some O) ∧ Hid (bxsB O = true) ∧ Hid (Below (w1.heap.size + 1) (w1.alloc (.cells #[.int .i64 x1, .slice B1 m1 d1, .int .i64 x3] 28)) wr)) (fun _ i' _ _ _ => n1 - (intOf i').toNat)
    case atStart => exact ⟨0, A3, n3, c3, X, Nat.zero_le _, rfl, rfl, HO3.out, rfl, HB.out, Hb3.out⟩
    case round =>
      obtain ⟨k, A4, n4, c4, O, hk, rfl, rfl, hO, hrun, hval, hbr⟩ := hrel
      have Hwr := hide (Hbq.out.trans (hbr.out.mono (Nat.le_succ _)))
      have hsr : w1.heap.size + 1 ≤ wr.heap.size := by have h := hbr.out.size; rw [HsW.out] at h; exact h
      have Hbr := hide (Hb1.out.trans (Hwr.out.mono (by omega)))
      have HBr := hide (HB1.out.below Hwr.out (by omega))
      have HAr := hide (HA1.out.below Hwr.out (by omega))
      have HQr := hide (HQW.out.below hbr.out (Nat.lt_succ_self _))
      by_cases hlt : k < n1
      · obtain ⟨s, hs⟩ : ∃ s, N[k]? = some s := ⟨N[k]'(by have := hln.out; omega), List.getElem?_eq_getElem _⟩
        obtain ⟨g, off, rfl, hg, hc⟩ := (HNm.out.below Hwr.out).2 (by omega)
        have hcs := hc k s hs
        have hss := HnsN.out s (List.mem_of_getElem? hs)
        have hgr : g < wr.heap.size := by omega
        obtain ⟨⟨a0, _, _⟩, _⟩ := HAr.out.cells3
        obtain ⟨A4', n4', c4', Y4, e4, hY4, hN4⟩ := hO.out
        injection e4 with e5 e6 e7
        subst e5 e6 e7
        have HXr : Hid (Bxs wr wr.heap.size A4 n4 O) := by rw [← hY4]; exact hN4.bxs
        have hn4 : n4 ≤ maxLen := Nat.le_trans (own_cap hN4.row).1 (own_cap hN4.row).2
        have Hcs := hide hcs
        have Ha0 := hide a0
        clear hc hY4 hN4
        cases hp : bsPutM O s i with
        | none =>
          have H : Hid (jRunM X (i, L, d) many = none) := by show _ = _; rw [jRun_3 Hj.out HB.out, runB_stop hrun.out hs hp]; rfl
          have HP := hide hp
          clear hs hp
          go_wp2_with fail
          go_region_held3 (fun w' => w'.cell? ⟨g, off + k, none⟩ = some (.string s) ∧ w'.cell? ⟨w.heap.size, 0, none⟩ = some (.int .i64 i)) (first | exact ⟨hd0, hd1⟩ | go_keep) (first
            | (go_at_call 78
               refine (s_BoxesPut A4 n4 c4 O s i _ (by exact HXr.out.drewN 1) (bxs_small' hval.out) hn4 hss).mono ?_
               rintro e w6 ⟨v6, rfl, hown6, hb6⟩
               rw [HP.out] at hown6
               obtain ⟨A6, n6, c6, Y6, rfl, hY6, hN6⟩ := hown6
               have hb6' : Below wr.heap.size wr w6 := (below_drewN' wr.heap.size wr 1).trans hb6
               have hd0 : w6.cell? ⟨g, off + k, none⟩ = some (.string s) := (hb6'.cell (p := ⟨g, off + k, none⟩) hgr).trans Hcs.out
               have hd1 : w6.cell? ⟨w.heap.size, 0, none⟩ = some (.int .i64 i) := (hb6'.cell (p := ⟨w.heap.size, 0, none⟩) (by show w.heap.size < wr.heap.size; omega)).trans Ha0.out
               have HS6 : Hid (OwnB (w1.heap.size + 1) w6 (.slice A6 n6 c6) _) := ⟨A6, n6, c6, Y6, rfl, hY6, hN6.down hsr⟩
               have HZ6 := hide (hbr.out.trans (hb6'.mono hsr))
               have Hw6 := hide (Hwr.out.trans (hb6'.mono (by omega)))
               have hs6 : w1.heap.size + 1 ≤ w6.heap.size := Nat.le_trans hsr hb6'.size
               clear hb6 hb6' hY6 hN6)
            | fail)
          rw [HP.out]
          have HB6 := hide (HB1.out.below Hw6.out (by omega))
          have Hb6' := hide (Hb1.out.trans (Hw6.out.mono (by omega)))
          clear HS6
          obtain ⟨⟨g0, g1, g2⟩, k0, k1, k2⟩ := (HB6.out.alloc (.cells #[] 55)).cells3
          have HBe := (HB6.out.alloc (.cells #[] 55)).job (a' := .int .i64 0) (b' := .slice none 0 0) (d' := .int .i64 0)
          obtain ⟨⟨e0, e1, e2⟩, _⟩ := HBe.cells3
          have hxr : (w6.alloc (.cells #[] 55)).ownsRow w1.heap.size 55 2 (.slice (some ⟨w6.heap.size, 0, none⟩) 0 0) 0 (wcells []) := World.ownsRow_lit w6 #[] 0 (by have := hs6; omega) (Nat.zero_le _) rfl
          rw [(rfl : w6.heap.size = w6.heap.size)] at hxr
          have hx : NestB w1.heap.size (w6.alloc (.cells #[] 55)) (some ⟨w6.heap.size, 0, none⟩) 0 0 [] := ⟨hxr, fun y h => (by cases h), fun y h => (by cases h), List.Pairwise.nil⟩
          have Hx := hide ((nest_job (p := w.heap.size + 1) hx (by omega) (.int .i64 0) (.slice none 0 0) (.int .i64 0)).down (show w.heap.size ≤ w1.heap.size by omega))
          have Hbe := hide (below_job (p := w.heap.size + 1) (Hb6'.out.alloc (by have := hs6; omega) (.cells #[] 55)) (by omega) (.int .i64 0) (.slice none 0 0) (.int .i64 0))
          clear HBe hx hxr
          go_wp2_with fail
          exact bodyPost_ret (v := .tuple #[.slice (some ⟨w6.heap.size, 0, none⟩) 0 0, .agg #[.int .i64 0, .slice none 0 0, .int .i64 0], .bool false]) (by simp [results, Try.results31, go_sem, e0, e1, e2]) rfl (by rw [H.out]; exact ⟨_, _, _, [], none, 0, 0, rfl, rfl, Hx.out, World.ownsRow_nil _ _ _ _, fun b _ e => by simp [Value.ownBlock] at e, Hbe.out⟩)
        | some Y =>
          have HR2 := hide (runB_step hrun.out hs hp)
          have HV2 := hide (bsPutM_some hp).vy
          have HP := hide hp
          clear hs hp
          go_wp2_with fail
          go_region_held3 (fun w' => w'.cell? ⟨g, off + k, none⟩ = some (.string s) ∧ w'.cell? ⟨w.heap.size, 0, none⟩ = some (.int .i64 i)) (first | exact ⟨hd0, hd1⟩ | go_keep) (first
            | (go_at_call 78
               refine (s_BoxesPut A4 n4 c4 O s i _ (by exact HXr.out.drewN 1) (bxs_small' hval.out) hn4 hss).mono ?_
               rintro e w6 ⟨v6, rfl, hown6, hb6⟩
               rw [HP.out] at hown6
               obtain ⟨A6, n6, c6, Y6, rfl, hY6, hN6⟩ := hown6
               have hb6' : Below wr.heap.size wr w6 := (below_drewN' wr.heap.size wr 1).trans hb6
               have hd0 : w6.cell? ⟨g, off + k, none⟩ = some (.string s) := (hb6'.cell (p := ⟨g, off + k, none⟩) hgr).trans Hcs.out
               have hd1 : w6.cell? ⟨w.heap.size, 0, none⟩ = some (.int .i64 i) := (hb6'.cell (p := ⟨w.heap.size, 0, none⟩) (by show w.heap.size < wr.heap.size; omega)).trans Ha0.out
               have HS6 : Hid (OwnB (w1.heap.size + 1) w6 (.slice A6 n6 c6) _) := ⟨A6, n6, c6, Y6, rfl, hY6, hN6.down hsr⟩
               have HZ6 := hide (hbr.out.trans (hb6'.mono hsr))
               have Hw6 := hide (Hwr.out.trans (hb6'.mono (by omega)))
               have hs6 : w1.heap.size + 1 ≤ w6.heap.size := Nat.le_trans hsr hb6'.size
               clear hb6 hb6' hY6 hN6)
            | fail)
          rw [HP.out]
          go_wp2_with fail
          go_roundw
          case rel => exact ⟨k + 1, A6, n6, c6, Y, by omega, by go_num, rfl, HS6.out, HR2.out, HV2.out, HZ6.out⟩
          case measure => simp [intOf]; omega
      · obtain rfl : k = n1 := by omega
        have H : Hid (jRunM X (i, L, d) many = some (O, (x1, x2, x3))) := by
          have h1 := hrun.out
          rw [List.take_of_length_le (by have := hln.out; omega)] at h1
          show _ = _; rw [jRun_3 Hj.out HB.out, h1]; rfl
        obtain ⟨⟨q0, q1, q2⟩, _⟩ := HQr.out.cells3
        obtain ⟨⟨p0, p1, p2⟩, f0, f1, f2⟩ := HBr.out.cells3
        have HE := hide (jrun_end (p := w.heap.size + 1) (x1 := x1) (x3 := x3) (w := w) hO.out OwnJ2.out Hwr.out HBr.out rfl (by omega) Hbr.out)
        have HBe := HBr.out.job (a' := .int .i64 x1) (b' := .slice B1 m1 d1) (d' := .int .i64 x3)
        obtain ⟨⟨e0, e1, e2⟩, _⟩ := HBe.cells3
        clear HBe
        go_wp2_with fail
        go_region
        all_goals
          go_wp2_with fail
          exact bodyPost_ret (v := .tuple #[.slice A4 n4 c4, .agg #[.int .i64 x1, .slice B1 m1 d1, .int .i64 x3], .bool true]) (by simp [results, Try.results31, go_sem, e0, e1, e2]) rfl (by rw [H.out]; exact HE.out)
end Go.Proofs.Ytimpmlmkhjeajaa
