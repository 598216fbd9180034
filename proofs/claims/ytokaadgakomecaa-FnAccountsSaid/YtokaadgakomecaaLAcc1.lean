/- Walk of FnAccounts. -/
import Derived.Test.YtokaadgakomecaaDrawA3
import Derived.Test.YtokaadgakomecaaAv3
set_option linter.unusedVariables false
set_option linter.unusedSimpArgs false
namespace Go.Proofs.Ytokaadgakomecaa
open Go.RowKit Go.BigFrame

theorem accs_of {w : World} {base n c : Nat} {A : Option Addr} {xs : List Value} {X : List Acc} (h1 : w.ownsRow base 35 2 (.slice A n c) n xs) (h2 : RdA w (· < w.heap.size) xs X) : Accs w w.heap.size A n X := by
  have e1 := h1.1
  have e2 := h2.1
  refine ⟨by omega, fun hn => ?_⟩
  obtain ⟨g, cap, hv, hg, hlt⟩ := h1.form hn
  injection hv with hA hn' hc
  subst hA hc
  refine ⟨g, 0, rfl, hlt, fun j a ha => ?_⟩
  obtain ⟨h3, u, h4, h5⟩ := h2.2 j a ha
  have hj : j < X.length := (List.getElem?_eq_some_iff.1 ha).1
  refine ⟨?_, u, ?_, h5⟩
  · rw [Nat.zero_add, h1.cellAt (j * 2) (by omega)]; exact h3
  · rw [Nat.zero_add, h1.cellAt (j * 2 + 1) (by omega)]; exact h4
theorem RdA.one {w : World} {ok : Nat → Prop} {xs : List Value} {X : List Acc} (h : RdA w ok xs X) : ∀ u ∈ xs, u.oneCell' = true := by
  intro u hu
  obtain ⟨i, hi, rfl⟩ := List.mem_iff_getElem.1 hu
  have hl := h.1
  have hX : X[i / 2]? = some (X[i / 2]'(by omega)) := List.getElem?_eq_getElem _
  obtain ⟨h1, v, h2, h3⟩ := h.2 (i / 2) _ hX
  rcases Nat.mod_two_eq_zero_or_one i with e | e
  · rw [show i / 2 * 2 = i by omega, List.getElem?_eq_getElem hi] at h1
    injection h1 with h1
    rw [h1]; rfl
  · rw [show i / 2 * 2 + 1 = i by omega, List.getElem?_eq_getElem hi] at h2
    injection h2 with h2
    obtain ⟨A, n, c, rfl, _⟩ := h3
    rw [h2]; rfl
theorem Rd.of_blk {w : World} {g : Nat} {t : TypeId} {x y : Value} (h : Blk w g t #[x, y]) : Rd w (g + 1) 2 (some ⟨g, 0, none⟩) 1 [x, y] :=
  ⟨rfl, fun _ => ⟨g, 0, rfl, by omega, fun j u hu => by
    rw [h.cell]
    rcases j with _ | _ | j
    · simpa using hu
    · simpa using hu
    · simp at hu⟩⟩
theorem getLast_at {α : Type} {X : List α} {n : Nat} {a : α} (h : X[n]? = some a) (hl : X.length = n + 1) : X.getLast? = some a := by
  rw [List.getLast?_eq_getElem?, hl]; exact h

/-- The followers of the first account are set to a new list. -/
theorem own_set {w8 : World} {base n1 c1 gX : Nat} {xs1 : List Value} (nm : ByteArray) (F G : List ByteArray) (X' : List Acc) (T : TypeId) (k : Nat) (hk : G.length = k) (hkm : k ≤ maxLen) (hX : w8.ownsRow base 35 2 (.slice (some ⟨gX, 0, none⟩) n1 c1) n1 xs1) (hR : RdA w8 (fun b => b < w8.heap.size ∧ b ≠ gX) xs1 ((nm, F) :: X')) :
    ((w8.setCell ⟨gX, 1, none⟩ (.slice (some ⟨w8.heap.size, 0, none⟩) k k)).alloc (.cells (G.map Value.string).toArray T)).ownsRow base 35 2 (.slice (some ⟨gX, 0, none⟩) n1 c1) n1 (xs1.set 1 (.slice (some ⟨w8.heap.size, 0, none⟩) k k)) ∧
    RdA ((w8.setCell ⟨gX, 1, none⟩ (.slice (some ⟨w8.heap.size, 0, none⟩) k k)).alloc (.cells (G.map Value.string).toArray T)) (fun b => b < w8.heap.size + 1 ∧ b ≠ gX) (xs1.set 1 (.slice (some ⟨w8.heap.size, 0, none⟩) k k)) ((nm, G) :: X') ∧
    w8.grownBy ((w8.setCell ⟨gX, 1, none⟩ (.slice (some ⟨w8.heap.size, 0, none⟩) k k)).alloc (.cells (G.map Value.string).toArray T)) (some gX) := by
  have hlt := hX.lt gX rfl
  rw [← World.setCell_alloc_past _ _ _ _ hlt.2]
  generalize hw9 : w8.alloc (.cells (G.map Value.string).toArray T) = w9
  have h9 : w9.heap.size = w8.heap.size + 1 := by rw [← hw9]; simp
  have hb9 : Below w8.heap.size w8 w9 := by rw [← hw9]; exact (Below.refl _ _).alloc (Nat.le_refl _) _
  have hX9 : w9.ownsRow base 35 2 (.slice (some ⟨gX, 0, none⟩) n1 c1) n1 xs1 := by rw [← hw9]; exact hX.alloc _
  have hst := hX9.stored 1 (.slice (some ⟨w8.heap.size, 0, none⟩) k k)
  generalize hw10 : w9.setCell ⟨gX, 1, none⟩ (.slice (some ⟨w8.heap.size, 0, none⟩) k k) = w10 at hst
  have hgr := hst.2
  have hFl : Fls w10 (fun b => b < w8.heap.size + 1 ∧ b ≠ gX) (.slice (some ⟨w8.heap.size, 0, none⟩) k k) G := by
    refine ⟨_, _, _, rfl, Nat.le_refl _, hkm, hk, fun h0 => ⟨w8.heap.size, 0, rfl, ⟨by omega, by omega⟩, fun j s hs => ?_⟩⟩
    rw [World.cell?_of_block (a := ⟨w8.heap.size, 0 + j, none⟩) (hgr.block w8.heap.size (by omega) (fun e => by injection e; omega)), ← hw9, (Blk.new w8 T _).cell]
    simp [hs]
  refine ⟨hst.1, RdA.set0 ((hR.keep fun q hq => ?_).more fun b hb => ⟨by omega, hb.2⟩) hFl, ⟨hgr.os.trans hb9.os, hgr.tape.trans hb9.tape, hgr.output.trans hb9.output, Nat.le_trans hb9.size hgr.size, fun q hq hn => (hgr.block q (by omega) hn).trans (hb9.block q hq)⟩⟩
  rw [World.cell?_of_block (a := q) (hgr.block q.block (by omega) (fun e => hq.2 (by injection e)))]
  exact hb9.cell hq.1

theorem bytes40 (n : Nat) (h : n ≤ 100000) : n * 40 ≤ 140737488355328 := by omega

set_option maxHeartbeats 1000000 in
set_option maxRecDepth 100000 in
theorem FnAccounts_walk (w : World) (A : Option Addr) (n c : Nat) (hc : Code w w.heap.size A n) (hnc : n ≤ c) (hm : n ≤ maxLen) :
    Calls Try.prog 12 #[.slice A n c] w fun e w' => e = .returned (.bool true) ∧ Below w.heap.size w w' := by
  by_cases h : 1048576 < n
  · unfold maxLen at hm
    go_enter Try.func12, Try.ntmps12
    go_wp2
    go_ret
    exact ⟨rfl, Below.refl _ _⟩
  go_enter Try.func12, Try.ntmps12
  obtain ⟨i0, hi0, hz0, hz1, hz2⟩ := info_parts str_info'
  obtain ⟨i1, hi1, hy0, hy1, hy2⟩ := info_parts acc_info
  have hUA := Try.underlying23
  go_wp2_with fail
  refine (d_AccountsValid A n c w hc hnc (by omega)).mono ?_
  rintro e w1 ⟨v, X, rfl, A1, n1, c1, rfl, hacc, hnc1, hdr, hpos, hown, hb1⟩
  have Hacc := hide hacc
  have Hb1 := hide hb1
  have Hsm := hide hdr.small
  have hl := hide hacc.1
  have hn8 : n1 ≤ 8 ∧ 1 ≤ n1 := by have := hdr.1; have := hl.out; omega
  have hn1 : n1 ≤ maxLen := by unfold maxLen; omega
  have Hdr := hide hdr
  clear hacc hb1 hdr hc hnc hpos
  go_wp2_with fail
  refine (i_As A1 n1 c1 X _ Hacc.out Hsm.out hn1).mono ?_
  rintro e w2 ⟨rfl, hb2⟩
  have Hb2 := hide hb2
  clear hb2
  have Hacc2 := hide (Hacc.out.on Hb2.out)
  go_wp2_with fail
  refine (s_As A1 n1 c1 X _ Hacc2.out Hsm.out hn1).mono ?_
  rintro e w3 ⟨rfl, hb3⟩
  have Hb3 := hide hb3
  clear hb3
  have Hacc3 := hide (Hacc2.out.on Hb3.out)
  have Hb13 : Hid (Below w.heap.size w w3) := Hb1.out.trans ((Hb2.out.mono Hb1.out.size).trans (Hb3.out.mono (Nat.le_trans Hb1.out.size Hb2.out.size)))
  cases hv : asB X
  · go_wp2_with fail
    go_ret
    exact ⟨rfl, Hb13.out⟩
  have hne : ((n1 : Int) == 0) = false := by rw [beq_eq_false_iff_ne]; omega
  have Hown3 : Hid (OwnA w.heap.size w1 (.slice A1 n1 c1) X) := hown
  have Hv := hide hv
  clear hv hown
  obtain ⟨m, rfl⟩ : ∃ m, n1 = m + 1 := ⟨n1 - 1, by omega⟩
  obtain ⟨aL, haL⟩ : ∃ a, X[m]? = some a := ⟨X[m]'(by have := hl.out; omega), List.getElem?_eq_getElem _⟩
  have hb23 : Below w1.heap.size w1 w3 := Hb2.out.trans (Hb3.out.mono Hb2.out.size)
  obtain ⟨A', n', c', xs, e1, hX3, hR3⟩ := Hown3.out.below hb23
  injection e1 with e1 e2 e3
  subst e1 e2 e3
  obtain ⟨gA, capA, eA, hgA, hgA2⟩ := hX3.form (by omega)
  injection eA with eA1 eA2 eA3
  subst eA1 eA3
  obtain ⟨⟨nm, F⟩, X', hXe⟩ := List.exists_cons_of_length_pos (l := X) (by have := hl.out; omega)
  obtain ⟨p0, u0, p1, hu0⟩ := hR3.2 0 (nm, F) (by rw [hXe]; rfl)
  obtain ⟨q0, uL, q1, huL⟩ := hR3.2 m aL haL
  have hcn : w3.cell? ⟨gA, 0, none⟩ = some (.string nm) := (hX3.cellAt 0 (by omega)).trans p0
  have hcL0 : w3.cell? ⟨gA, m * 2, none⟩ = some (.string aL.1) := (hX3.cellAt (m * 2) (by omega)).trans q0
  have hcL1 : w3.cell? ⟨gA, m * 2 + 1, none⟩ = some uL := (hX3.cellAt (m * 2 + 1) (by omega)).trans q1
  have hself := hide (asB_self X' hXe)
  have htwice := hide (asB_twice (getLast_at haL hl.out))
  have own0 : (w3.alloc (.cells #[] 35)).ownsRow w3.heap.size 35 2 (.slice (some ⟨w3.heap.size, 0, none⟩) 0 0) 0 [] := World.ownsRow_lit w3 #[] 0 (Nat.le_refl _) (Nat.zero_le _) rfl
  have src := (Rd.of_own hX3).alloc (Nat.le_refl _) (.cells #[] 35)
  have hone := hR3.one
  have Hown0 := hide own0
  have Hsrc := hide src
  have Hone := hide hone
  have HR3 := hide hR3
  have HX3 := hide hX3
  have HuL := hide huL
  have HXe := hide hXe
  have HaL := hide haL
  have b1 : 0 + (m + 1) ≤ maxLen := by unfold maxLen; omega
  have b2 : (0 + (m + 1)) * 40 ≤ 140737488355328 := by omega
  clear own0 src hone hR3 hX3 p0 p1 q0 q1 hu0 huL hb23 hXe haL
  go_wp2_with (
      (at_builtin
       refine wpList_append_rd _ rfl (.tmp 32) (.tmp 33) _ rfl w3.heap.size 35 i1 _ 2 40 hUA hi1 hy0 hy1 hy2 rfl (by omega) _ 0 [] rfl Hown0.out w3.heap.size (some ⟨gA, 0, none⟩) (m + 1) _ xs rfl Hsrc.out Hone.out b1 b2 (by simp) ?_
       intro v4 w4 own4 gr4 at4
       obtain ⟨gx, cx, e4, hgx, hgx2⟩ := own4.form (by omega)
       subst e4
       rw [Nat.zero_add, List.nil_append] at own4
       have hb4 : Below w3.heap.size w3 w4 := Below.own ((Below.refl _ _).alloc (Nat.le_refl _) _) gr4 Hown0.out (Nat.le_refl _) (by simp)
       have hcn4 : w4.cell? ⟨gA, 0, none⟩ = some (.string nm) := (hb4.cell (p := ⟨gA, 0, none⟩) hgA2).trans hcn
       have hx4 : w4.cell? ⟨gx, 1, none⟩ = xs[1]? := own4.cellAt 1 (by omega)
       have hxl : 1 < xs.length := by have := own4.1; omega
       rw [List.getElem?_eq_getElem hxl] at hx4
       have hf4 : w4.frozen? ⟨gx, 1, none⟩ = false := own4.frozenAt 1
       have Hb4 := hide hb4
       have Hown4 := hide own4
       clear gr4 at4 own4 hb4))
  have hR4 : RdA w4 (fun b => b < w4.heap.size ∧ b ≠ gx) xs ((nm, F) :: X') := by
    rw [← HXe.out]
    exact (HR3.out.keep fun q hq => Hb4.out.cell hq.2.1).more fun b hb => ⟨by have := Hb4.out.size; omega, by omega⟩
  have hset := own_set nm F [nm] X' 9 1 rfl (by unfold maxLen; omega) Hown4.out hR4
  have hBW : Below w3.heap.size w3 ((w4.setCell ⟨gx, 1, none⟩ (.slice (some ⟨w4.heap.size, 0, none⟩) 1 1)).alloc (.cells #[.string nm] 9)) := by
    have h3 := hset.2.2
    exact Hb4.out.trans ⟨h3.os, h3.tape, h3.output, h3.size, fun q hq => h3.block q (by have := Hb4.out.size; omega) (fun e => by injection e; omega)⟩
  obtain ⟨hs1, hs2, hs3⟩ := hset
  have hWs : ((w4.setCell ⟨gx, 1, none⟩ (.slice (some ⟨w4.heap.size, 0, none⟩) 1 1)).alloc (.cells #[.string nm] 9)).heap.size = w4.heap.size + 1 := by simp
  clear hR4 hcn4 hx4 hf4
  generalize hW : ((w4.setCell ⟨gx, 1, none⟩ (.slice (some ⟨w4.heap.size, 0, none⟩) 1 1)).alloc (.cells #[.string nm] 9)) = W at *
  have hs1' : W.ownsRow w3.heap.size 35 2 (.slice (some ⟨gx, 0, none⟩) (m + 1) cx) (m + 1) (xs.set 1 (.slice (some ⟨w4.heap.size, 0, none⟩) 1 1)) := by rw [← hW]; exact hs1
  have hs2' : RdA W (fun b => b < w4.heap.size + 1 ∧ b ≠ gx) (xs.set 1 (.slice (some ⟨w4.heap.size, 0, none⟩) 1 1)) ((nm, [nm]) :: X') := by rw [← hW]; exact hs2
  have HAx := hide (accs_of hs1' (hs2'.more fun b hb => by omega))
  have HBW := hide hBW
  have Hsrc := hide ((Rd.of_own HX3.out).below hBW)
  have hlL0 : W.cell? ⟨gA, m * 2, none⟩ = some (.string aL.1) := (hBW.cell (p := ⟨gA, m * 2, none⟩) hgA2).trans hcL0
  have hlL1 : W.cell? ⟨gA, m * 2 + 1, none⟩ = some uL := (hBW.cell (p := ⟨gA, m * 2 + 1, none⟩) hgA2).trans hcL1
  have HRW := hide (HR3.out.keep (w' := W) fun q hq => hBW.cell hq.2.1)
  have HuW := hide (HuL.out.keep (w' := W) fun q hq => hBW.cell hq.2.1)
  have h3W := hBW.size
  clear hs1 hs2 hs3 hs1' hs2' hBW hcL0 hcL1 hcn hWs hW
  have hone2 : ∀ u ∈ [Value.string aL.1, uL], u.oneCell' = true := by
    intro u hu
    simp at hu
    rcases hu with rfl | rfl
    · rfl
    · obtain ⟨A, n, c, rfl, _⟩ := HuW.out
      rfl
  have Hone2 := hide hone2
  have ownA0 := World.ownsRow_lit (size := 2) (e := 35) W #[] 0 (Nat.le_refl _) (Nat.zero_le _) rfl
  have belA0 := (Below.refl W.heap.size W).alloc (Nat.le_refl _) (.cells #[] 35)
  have ownA := hide ownA0.drew
  have ownB := hide (ownA0.alloc (.cells #[.string aL.1, uL] 35)).drew
  have ownC0 := World.ownsRow_lit (size := 2) (e := 35) (base := W.heap.size) (W.alloc (.cells #[.string aL.1, uL] 35)) #[] 0 (by simp) (Nat.zero_le _) rfl
  rw [World.size_alloc] at ownC0
  have ownC := hide ownC0.drew
  have belA := hide belA0.drew
  have belB := hide (belA0.alloc belA0.size (.cells #[.string aL.1, uL] 35)).drew
  have belC := hide (((Below.refl W.heap.size W).alloc (Nat.le_refl _) (.cells #[.string aL.1, uL] 35)).alloc (by simp) (.cells #[] 35)).drew
  have blkB : Hid (Blk (((W.alloc (.cells #[] 35)).alloc (.cells #[.string aL.1, uL] 35)).drew) (W.heap.size + 1) 35 #[.string aL.1, uL]) := by
    have h := Blk.new (W.alloc (.cells #[] 35)) 35 #[.string aL.1, uL]
    rw [World.size_alloc] at h
    exact h
  have blkC : Hid (Blk (((W.alloc (.cells #[.string aL.1, uL] 35)).alloc (.cells #[] 35)).drew) _ 35 #[.string aL.1, uL]) := (Blk.new W 35 #[.string aL.1, uL]).alloc (.cells #[] 35)
  clear ownA0 belA0 ownC0
  have hgAW : gA < W.heap.size := by omega
  have hw1 : IntKind.i64.wrap ((m : Int) + 1 - 1) = (m : Int) := by rw [IntWalk.i64_in _ (by omega)]; omega
  have hw2 : IntKind.i64.wrap (m : Int) = (m : Int) := IntWalk.i64_in _ (by omega)
  have hw3 : (0 : Int) ≤ (m : Int) := by omega
  have hw4 : (m : Int) < (m : Int) + 1 := by omega
  have b3 : 0 + (m + 1) + 1 ≤ maxLen := by unfold maxLen; omega
  have B4 := hide (bytes40 (0 + (m + 1) + 1) (by omega))
  clear hone2
  go_region_law (first
    | (refine step_append_rd _ rfl (.tmp 43) (.tmp 44) _ rfl W.heap.size 35 i1 _ 2 40 hUA hi1 hy0 hy1 hy2 rfl (by omega) _ 0 [] rfl (by exact ownA.out) w3.heap.size (some ⟨gA, 0, none⟩) (m + 1) _ xs rfl (by exact Hsrc.out.below (belA.out.mono h3W)) Hone.out b1 b2 (by exact belA.out.size) ?_
       intro v6 w6 own6 gr6 at6
       have hb6 : Below W.heap.size W w6 := Below.own belA.out gr6 ownA.out (Nat.le_refl _) belA.out.size
       have hl60 : w6.cell? ⟨gA, m * 2, none⟩ = some (.string aL.1) := (hb6.cell (p := ⟨gA, m * 2, none⟩) hgAW).trans hlL0
       have hl61 : w6.cell? ⟨gA, m * 2 + 1, none⟩ = some uL := (hb6.cell (p := ⟨gA, m * 2 + 1, none⟩) hgAW).trans hlL1
       have Own6 := hide own6
       have Hb6 := hide hb6
       clear gr6 at6 own6 hb6)
    | (refine step_append_rd _ rfl (.tmp 43) (.tmp 44) _ rfl W.heap.size 35 i1 _ 2 40 hUA hi1 hy0 hy1 hy2 rfl (by omega) _ 0 [] rfl (by exact ownB.out) w3.heap.size (some ⟨gA, 0, none⟩) (m + 1) _ xs rfl (by exact Hsrc.out.below (belB.out.mono h3W)) Hone.out b1 b2 (by exact belB.out.size) ?_
       intro v6 w6 own6 gr6 at6
       have hb6 : Below W.heap.size W w6 := Below.own belB.out gr6 ownB.out (Nat.le_refl _) belB.out.size
       have Src6 := hide (Rd.of_blk (blkB.out.grown gr6 (fun e => absurd (Option.some.inj e) (by simp))))
       have hl60 : w6.cell? ⟨gA, m * 2, none⟩ = some (.string aL.1) := (hb6.cell (p := ⟨gA, m * 2, none⟩) hgAW).trans hlL0
       have hl61 : w6.cell? ⟨gA, m * 2 + 1, none⟩ = some uL := (hb6.cell (p := ⟨gA, m * 2 + 1, none⟩) hgAW).trans hlL1
       have Own6 := hide own6
       have Hb6 := hide hb6
       clear gr6 at6 own6 hb6)
    | (refine step_append_rd _ rfl (.tmp 43) (.tmp 44) _ rfl W.heap.size 35 i1 _ 2 40 hUA hi1 hy0 hy1 hy2 rfl (by omega) _ 0 [] rfl (by exact ownC.out) w3.heap.size (some ⟨gA, 0, none⟩) (m + 1) _ xs rfl (by exact Hsrc.out.below (belC.out.mono h3W)) Hone.out b1 b2 (by exact belC.out.size) ?_
       intro v6 w6 own6 gr6 at6
       have hb6 : Below W.heap.size W w6 := Below.own belC.out gr6 ownC.out (Nat.le_refl _) belC.out.size
       have Src6 := hide (Rd.of_blk (blkC.out.grown gr6 (fun e => absurd (Option.some.inj e) (by simp))))
       have hl60 : w6.cell? ⟨gA, m * 2, none⟩ = some (.string aL.1) := (hb6.cell (p := ⟨gA, m * 2, none⟩) hgAW).trans hlL0
       have hl61 : w6.cell? ⟨gA, m * 2 + 1, none⟩ = some uL := (hb6.cell (p := ⟨gA, m * 2 + 1, none⟩) hgAW).trans hlL1
       have Own6 := hide own6
       have Hb6 := hide hb6
       clear gr6 at6 own6 hb6)
    | (refine step_append_rd _ rfl (.tmp 45) (.tmp 52) _ rfl W.heap.size 35 i1 _ 2 40 hUA hi1 hy0 hy1 hy2 rfl (by omega) _ (0 + (m + 1)) ([] ++ xs) rfl (by exact Own6.out.alloc _) (w6.heap.size + 1) (some ⟨w6.heap.size, 0, none⟩) 1 _ [Value.string aL.1, uL] rfl (by exact Rd.two w6 _ _ _) Hone2.out b3 B4.out (by simp; have := Hb6.out.size; omega) ?_
       intro v7 w7 own7 gr7 at7
       have Hb7 := hide (Below.own (Hb6.out.alloc Hb6.out.size _) gr7 (Own6.out.alloc _) (Nat.le_refl _) (by simp; have := Hb6.out.size; omega))
       have Own7 := hide own7
       clear gr7 at7 own7)
    | (refine step_append_rd _ rfl (.tmp 45) (.tmp 52) _ rfl W.heap.size 35 i1 _ 2 40 hUA hi1 hy0 hy1 hy2 rfl (by omega) _ (0 + (m + 1)) ([] ++ xs) rfl (by exact Own6.out) _ _ 1 _ [Value.string aL.1, uL] rfl (by exact Src6.out) Hone2.out b3 B4.out Hb6.out.size ?_
       intro v7 w7 own7 gr7 at7
       have Hb7 := hide (Below.own Hb6.out gr7 Own6.out (Nat.le_refl _) Hb6.out.size)
       have Own7 := hide own7
       clear gr7 at7 own7))
  all_goals
    have hR7 : RdA w7 (· < w7.heap.size) (([] ++ xs) ++ [Value.string aL.1, uL]) (X ++ [(aL.1, aL.2)]) := by
      rw [List.nil_append]
      exact RdA.snoc ((HRW.out.keep fun q hq => Hb7.out.cell (by omega)).more fun b hb => by have := Hb7.out.size; omega) ((HuW.out.keep fun q hq => Hb7.out.cell (by omega)).more fun b hb => by have := Hb7.out.size; omega)
    have own8 := Own7.out
    rw [show 0 + (m + 1) + 1 = m + 2 by omega] at own8
    obtain ⟨g7, c7, e7, _, _⟩ := own8.form (by omega)
    subst e7
    have HAy := hide (accs_of own8 hR7)
    have HAx7 := hide (HAx.out.on Hb7.out)
    have hbf : Hid (Below w.heap.size w w7) := Hb13.out.trans ((HBW.out.mono Hb13.out.size).trans (Hb7.out.mono (by have := Hb13.out.size; omega)))
    have hsx : Hid (ASmall ((nm, [nm]) :: X')) := by
      intro a ha
      have h0 : (nm, F) ∈ X := by rw [HXe.out]; simp
      rcases List.mem_cons.1 ha with rfl | h1
      · have h2 := (Hsm.out (nm, F) h0).1
        exact ⟨h2, fun s hs => by rw [List.mem_singleton.1 hs]; exact h2⟩
      · exact Hsm.out a (by rw [HXe.out]; exact List.mem_cons_of_mem _ h1)
    have hsy : Hid (ASmall (X ++ [(aL.1, aL.2)])) := by
      intro a ha
      rcases List.mem_append.1 ha with h1 | h1
      · exact Hsm.out a h1
      · rw [List.mem_singleton.1 h1]; exact Hsm.out aL (List.mem_of_getElem? HaL.out)
    have hm2 : m + 2 ≤ maxLen := by unfold maxLen; omega
    clear hR7 own8 Own7
    go_wp2_with fail
    refine (i_As _ _ _ _ _ HAx7.out hsx.out hn1).mono ?_
    rintro e w8 ⟨rfl, hb8⟩
    rw [hself.out]
    have HAy8 := hide (HAy.out.on hb8)
    have Hb8 := hide (hbf.out.trans (hb8.mono hbf.out.size))
    clear hb8
    go_wp2_with fail
    refine (i_As _ _ _ _ _ HAy8.out hsy.out hm2).mono ?_
    rintro e w9 ⟨rfl, hb9⟩
    rw [show asB (X ++ [(aL.1, aL.2)]) = false from htwice.out]
    go_wp2_with fail
    go_ret
    exact ⟨rfl, Hb8.out.trans (hb9.mono Hb8.out.size)⟩
end Go.Proofs.Ytokaadgakomecaa
