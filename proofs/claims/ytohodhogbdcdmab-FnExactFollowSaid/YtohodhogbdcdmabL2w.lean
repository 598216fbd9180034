/- spec.l2With, spec.Follow, spec.Unfollow. -/
import Derived.Test.YtohodhogbdcdmabChg
import Derived.Test.YtohodhogbdcdmabSPut
import Derived.Deep.RegionLaw
import Derived.Deep.CutRange
import Derived.Outline
set_option linter.unusedVariables false
set_option linter.unusedSimpArgs false
namespace Go.Proofs.Ytohodhogbdcdmab
open Go.RowKit

/-- Followers of the k-th account are replaced. -/
def withAt (X : List Acc) (q : Nat) (F : List ByteArray) (k : Nat) (a : Acc) : Acc := if k = q then (a.1, F) else a
def withF (X : List Acc) (q : Nat) (F : List ByteArray) : List Acc := X.mapIdx fun k a => if k = q then (a.1, F) else a
theorem withF_setF {X : List Acc} (h : asB X = true) {q : Nat} {a : Acc} (ha : X[q]? = some a) (F : List ByteArray) : withF X q F = setF X a.1 F := by
  unfold withF setF
  apply List.ext_getElem?
  intro j
  rw [List.getElem?_mapIdx, List.getElem?_map]
  rcases Nat.lt_or_ge j X.length with hj | hj
  · rw [List.getElem?_eq_getElem hj]
    simp only [Option.map_some]
    congr 1
    by_cases e : j = q
    · subst e
      have : X[j] = a := by rw [List.getElem?_eq_getElem hj] at ha; injection ha
      rw [if_pos rfl, this, if_pos rfl]
    · have hn : ¬ X[j].1 = a.1 := fun hh => e ((asB_asc h).uniq (nms_at (List.getElem?_eq_getElem hj)) (by rw [hh]; exact nms_at ha))
      rw [if_neg e, if_neg hn]
  · rw [List.getElem?_eq_none hj]; rfl
theorem withF_take {X : List Acc} {k q : Nat} {a : Acc} (F : List ByteArray) (ha : X[k]? = some a) : (withF X q F).take (k + 1) = (withF X q F).take k ++ [if k = q then (a.1, F) else a] := by
  apply take_next
  unfold withF
  rw [List.getElem?_mapIdx, ha]; rfl

/-- A block of the call's own that holds an account: its name, its followers' slice. -/
def NewAcc (W : World) (P : Nat) (nm : ByteArray) (F : List ByteArray) (wF : World) : Prop :=
  ∃ v, Blk wF P 31 #[.string nm, v] ∧ OwnL W.heap.size wF v F ∧ W.heap.size ≤ P ∧ v.ownBlock ≠ some P ∧ Below W.heap.size W wF
theorem newAcc_set {W w6 : World} {P n6 : Nat} {nm : ByteArray} {F : List ByteArray} {v6 : Value} {cs : Array Value} (hB : Blk w6 P 31 cs) (hcs : cs.size = 2) (own6 : w6.ownsRow W.heap.size 9 1 v6 n6 (F.map Value.string)) (hP : W.heap.size ≤ P) (hne : v6.ownBlock ≠ some P) (hb6 : Below W.heap.size W w6) :
    NewAcc W P nm F ((w6.setCell ⟨P, 0, none⟩ (.string nm)).setCell ⟨P, 1, none⟩ v6) := by
  have h1 := hB.set_ 0 (.string nm)
  have h2 := h1.set_ 1 v6
  have hgr : w6.grownBy ((w6.setCell ⟨P, 0, none⟩ (.string nm)).setCell ⟨P, 1, none⟩ v6) (some P) :=
    ⟨rfl, rfl, rfl, by simp, fun k _ hk => (heap_setCell_other _ ⟨P, 1, none⟩ k v6 (fun e => hk (by simp [e]))).trans (heap_setCell_other w6 ⟨P, 0, none⟩ k _ (fun e => hk (by simp [e])))⟩
  refine ⟨v6, ?_, OwnL.mk (own6.kept hgr (.inr hne)) rfl, hP, hne, hb6.grown hgr hb6.size (fun q hq => by injection hq; omega)⟩
  have e : (cs.setIfInBounds 0 (.string nm)).setIfInBounds 1 v6 = #[.string nm, v6] := by
    obtain ⟨l⟩ := cs
    match l, hcs with
    | [a, b], _ => rfl
  rw [e] at h2
  exact h2

/-- The loop of l2With behind k rounds; vF is the new followers' slice. -/
def WithAt (W0 : World) (X : List Acc) (q : Nat) (F : List ByteArray) (vF : Value) (k : Nat) (v : Value) (wr : World) : Prop :=
  OwnA W0.heap.size wr v ((withF X q F).take k) ∧ Fls wr (fun b => W0.heap.size ≤ b ∧ b < wr.heap.size ∧ v.ownBlock ≠ some b) vF F ∧ Below W0.heap.size W0 wr

theorem with_step {W0 w1 w7 : World} {X : List Acc} {q k c : Nat} {F G : List ByteArray} {vF vx v7 : Value} {A : Option Addr} {nm : ByteArray} {xs : List Value} (hX : w1.ownsRow W0.heap.size 31 2 (.slice A k c) k xs) (hR : RdA w1 (fun b => W0.heap.size ≤ b ∧ b < w1.heap.size ∧ (Value.slice A k c).ownBlock ≠ some b) xs ((withF X q F).take k))
    (hG : Fls w1 (fun b => W0.heap.size ≤ b ∧ b < w1.heap.size ∧ (Value.slice A k c).ownBlock ≠ some b) vx G) (hF : Fls w1 (fun b => W0.heap.size ≤ b ∧ b < w1.heap.size ∧ (Value.slice A k c).ownBlock ≠ some b) vF F) (hB : Below W0.heap.size W0 w1) (htk : (withF X q F).take (k + 1) = (withF X q F).take k ++ [(nm, G)])
    (own7 : w7.ownsRow W0.heap.size 31 2 v7 (k + 1) (xs ++ [.string nm, vx])) (gr7 : (w1.alloc (.cells #[.string nm, vx] 31)).grownBy w7 (Value.slice A k c).ownBlock) (at7 : v7.ownBlock = (Value.slice A k c).ownBlock ∨ v7.ownBlock = some (w1.alloc (.cells #[.string nm, vx] 31)).heap.size) :
    WithAt W0 X q F vF (k + 1) v7 w7 ∧ w1.heap.size ≤ w7.heap.size := by
  have hgs := gr7.size
  simp only [World.size_alloc] at hgs
  have hs := hB.size
  refine ⟨⟨?_, ?_, ?_⟩, by omega⟩
  · rw [htk]; exact outer_step hX hR own7 gr7 at7 hG
  · refine (hF.keep fun p hp => ?_).more fun b hb => ⟨hb.1, by omega, ?_⟩
    · have e1 : (w1.alloc (.cells #[.string nm, vx] 31)).cell? p = w1.cell? p := (((Below.refl w1.heap.size w1).alloc (Nat.le_refl _) _).cell (p := p) hp.2.1)
      rw [← e1]
      exact World.cell?_of_block (gr7.block _ (by simp; omega) (fun e => hp.2.2 e.symm))
    · rcases at7 with e | e
      · rw [e]; exact hb.2.2
      · rw [e]; simp; omega
  · exact Below.own (hB.alloc hs _) gr7 (hX.alloc _) (Nat.le_refl _) (by simp; omega)

set_option maxHeartbeats 1000000 in
set_option maxRecDepth 100000 in
theorem s_with (W0 : World) (A : Option Addr) (n c q : Nat) (X : List Acc) (A' : Option Addr) (n' c' : Nat) (F : List ByteArray) (w : World) (hX : Accs w W0.heap.size A n X) (hS : ASmall X) (hn : n ≤ 6) (hF : Fls w (fun b => W0.heap.size ≤ b ∧ b < w.heap.size) (.slice A' n' c') F) (hb : Below W0.heap.size W0 w) (hlen : ∀ a ∈ X, a.2.length ≤ 10) :
    Calls Try.prog 45 #[.slice A n c, .int .i64 q, .slice A' n' c'] w fun e w' => ∃ v, e = .returned v ∧ OwnA W0.heap.size w' v (withF X q F) ∧ Below W0.heap.size W0 w' := by
  obtain ⟨i0, hi0, hz0, hz1, hz2⟩ := info_parts str_info'
  have hU := Try.underlying29
  obtain ⟨i1, hi1, hy0, hy1, hy2⟩ := info_parts acc_info
  have hUA := Try.underlying23
  have hs0 := hb.size
  have Hst : Hid (WithAt W0 X q F (.slice A' n' c') 0 (.slice (some ⟨w.heap.size, 0, none⟩) 0 0) (w.alloc (.cells #[] 31))) := by
    refine ⟨⟨_, 0, 0, [], rfl, World.ownsRow_lit w #[] 0 hs0 (Nat.zero_le _) rfl, RdA.nil⟩, ?_, hb.alloc hs0 _⟩
    exact (hF.keep fun p hp => ((Below.refl w.heap.size w).alloc (Nat.le_refl _) _).cell hp.2).more fun b hb => ⟨hb.1, by simp; omega, fun e => by simp [Value.ownBlock] at e; omega⟩
  have HX := hide hX
  have HS := hide hS
  have Hlen := hide hlen
  have hl := hide hX.1
  have hwl : Hid ((withF X q F).length = n) := by show _ = _; unfold withF; rw [List.length_mapIdx]; exact hX.1
  have H0 : Hid (Below W0.heap.size W0 w) := hb
  clear hX hS hF hb hlen
  go_enter Try.func45, Try.ntmps45
  go_wp2_with fail
  go_loopw [7, 8] (fun v i wr => ∃ k : Nat, k ≤ n ∧ i = .int .i64 k ∧ w.heap.size ≤ wr.heap.size ∧ Hid (WithAt W0 X q F (.slice A' n' c') k v wr)) (fun _ i _ => n - (intOf i).toNat)
  case atStart => exact ⟨0, Nat.zero_le _, rfl, by simp, Hst.out⟩
  case round =>
    obtain ⟨k, hk, rfl, hsw, hat⟩ := hrel
    by_cases hlt : k < n
    · obtain ⟨a, ha⟩ : ∃ a, X[k]? = some a := ⟨X[k]'(by have := hl.out; omega), List.getElem?_eq_getElem _⟩
      obtain ⟨hO, hFl, hB⟩ := hat.out
      have hsB := hB.size
      obtain ⟨g, off, A4, n4, c4, rfl, hg, hc0, hc1, hn4, hm4, hf⟩ := (HX.out.keep (w' := wr) fun p hp => (hB.cell hp).trans (H0.out.cell hp).symm).at' ha
      have hg' : g < wr.heap.size := Nat.lt_of_lt_of_le hg hsB
      have h10 := Hlen.out a (List.mem_of_getElem? ha)
      have hn10 : n4 ≤ 10 := by have h1 := hf.strs.1; omega
      have Src := hide hf.rd
      have b1 : 0 + n4 ≤ maxLen := by unfold maxLen; omega
      have b2 : (0 + n4) * 16 ≤ 140737488355328 := by omega
      have Ha := hide ha
      have HO := hide hO
      have HFl := hide hFl
      have HB := hide hB
      have ownA0 := World.ownsRow_lit (size := 1) (e := 9) (base := wr.heap.size) wr #[] 0 (Nat.le_refl _) (Nat.zero_le _) rfl
      have ownC0 := World.ownsRow_lit (size := 1) (e := 9) (base := wr.heap.size) (wr.alloc (.cells #[.string { data := #[] }, .slice none 0 0] 31)) #[] 0 (by simp) (Nat.zero_le _) rfl
      rw [World.size_alloc] at ownC0
      have belA0 := (Below.refl wr.heap.size wr).alloc (Nat.le_refl _) (.cells #[] 9)
      have ownA := hide ownA0.drew
      have ownB := hide (ownA0.alloc (.cells #[.string { data := #[] }, .slice none 0 0] 31)).drew
      have ownC := hide ownC0.drew
      have belA := hide belA0.drew
      have belB := hide (belA0.alloc belA0.size (.cells #[.string { data := #[] }, .slice none 0 0] 31)).drew
      have belC := hide (((Below.refl wr.heap.size wr).alloc (Nat.le_refl _) (.cells #[.string { data := #[] }, .slice none 0 0] 31)).alloc (by simp) (.cells #[] 9)).drew
      have blkB : Hid (Blk (((wr.alloc (.cells #[] 9)).alloc (.cells #[.string { data := #[] }, .slice none 0 0] 31)).drew) (wr.heap.size + 1) 31 #[.string { data := #[] }, .slice none 0 0]) := by
        have h := Blk.new (wr.alloc (.cells #[] 9)) 31 #[.string { data := #[] }, .slice none 0 0]
        rw [World.size_alloc] at h
        exact h
      have blkC : Hid (Blk (((wr.alloc (.cells #[.string { data := #[] }, .slice none 0 0] 31)).alloc (.cells #[] 9)).drew) wr.heap.size 31 #[.string { data := #[] }, .slice none 0 0]) := (Blk.new wr 31 #[.string { data := #[] }, .slice none 0 0]).alloc (.cells #[] 9)
      clear hf ha hO hFl hB h10 ownA0 ownC0 belA0 hat
      go_wp2_with fail
      go_cut [9] from 11 to 38 (fun p wc => ∃ P : Nat, p = .pointer (some ⟨P, 0, none⟩) ∧ Hid (NewAcc wr P a.1 a.2 wc))
      case first =>
        go_region_law (first
          | (refine step_append_rd _ rfl (.tmp 22) (.tmp 27) _ rfl wr.heap.size 9 i0 _ 1 16 hU hi0 hz0 hz1 hz2 rfl (by omega) (.slice (some ⟨wr.heap.size, 0, none⟩) 0 0) 0 [] rfl (by exact ownA.out) W0.heap.size A4 n4 _ (a.2.map Value.string) rfl (by exact Src.out.below (belA.out.mono hsB)) (one_strs _) b1 b2 (by exact belA.out.size) ?_
             intro v6 w6 own6 gr6 at6
             have hb6 : Below wr.heap.size wr w6 := Below.own belA.out gr6 ownA.out (Nat.le_refl _) belA.out.size
             have hc06 : w6.cell? ⟨g, off + k * 2, none⟩ = some (.string a.1) := (hb6.cell (p := ⟨g, off + k * 2, none⟩) hg').trans hc0
             have hg6 : g < w6.heap.size := Nat.lt_of_lt_of_le hg' hb6.size
             obtain ⟨A6, m6, c6, e6, o6⟩ := OwnL.mk (L := a.2) own6 (by first | rfl | simp)
             subst e6
             have hNA : Hid (NewAcc wr w6.heap.size a.1 a.2 (w6.alloc (.cells #[.string a.1, .slice A6 m6 c6] 31))) := ⟨_, Blk.new w6 _ _, ⟨A6, m6, c6, rfl, o6.alloc _⟩, hb6.size, (fun e => by have := (o6.lt _ e).2; omega), hb6.alloc hb6.size _⟩
             clear own6 gr6 at6 o6 hb6)
          | (refine step_append_rd _ rfl (.tmp 22) (.tmp 27) _ rfl wr.heap.size 9 i0 _ 1 16 hU hi0 hz0 hz1 hz2 rfl (by omega) (.slice (some ⟨wr.heap.size, 0, none⟩) 0 0) 0 [] rfl (by exact ownB.out) W0.heap.size A4 n4 _ (a.2.map Value.string) rfl (by exact Src.out.below (belB.out.mono hsB)) (one_strs _) b1 b2 (by exact belB.out.size) ?_
             intro v6 w6 own6 gr6 at6
             have hb6 : Below wr.heap.size wr w6 := Below.own belB.out gr6 ownB.out (Nat.le_refl _) belB.out.size
             have hc06 : w6.cell? ⟨g, off + k * 2, none⟩ = some (.string a.1) := (hb6.cell (p := ⟨g, off + k * 2, none⟩) hg').trans hc0
             have hg6 : g < w6.heap.size := Nat.lt_of_lt_of_le hg' hb6.size
             obtain ⟨A6, m6, c6, e6, o6⟩ := OwnL.mk (L := a.2) own6 (by first | rfl | simp)
             subst e6
             have hB6 := blkB.out.grown gr6 (fun e => absurd (Option.some.inj e) (by simp))
             have hne6 : (Value.slice A6 m6 c6).ownBlock ≠ some (wr.heap.size + 1) := by
               rcases at6 with e | e <;> rw [e] <;> intro h <;> simp [Value.ownBlock, World.drew] at h <;> omega
             have hNA : Hid (NewAcc wr (wr.heap.size + 1) a.1 a.2 ((w6.setCell ⟨wr.heap.size + 1, 0, none⟩ (.string a.1)).setCell ⟨wr.heap.size + 1, 1, none⟩ (.slice A6 m6 c6))) := newAcc_set hB6 rfl o6 (by omega) hne6 hb6
             have c60 : w6.cell? ⟨wr.heap.size + 1, 0, none⟩ = some (.string { data := #[] }) := hB6.cell 0
             have c61 : w6.cell? ⟨wr.heap.size + 1, 1, none⟩ = some (.slice none 0 0) := hB6.cell 1
             have f60 : w6.frozen? ⟨wr.heap.size + 1, 0, none⟩ = false := hB6.frozen 0
             have f61 : w6.frozen? ⟨wr.heap.size + 1, 1, none⟩ = false := hB6.frozen 1
             clear hB6 hne6
             clear own6 gr6 at6 o6 hb6)
          | (refine step_append_rd _ rfl (.tmp 22) (.tmp 27) _ rfl wr.heap.size 9 i0 _ 1 16 hU hi0 hz0 hz1 hz2 rfl (by omega) (.slice (some ⟨wr.heap.size + 1, 0, none⟩) 0 0) 0 [] rfl (by exact ownC.out) W0.heap.size A4 n4 _ (a.2.map Value.string) rfl (by exact Src.out.below (belC.out.mono hsB)) (one_strs _) b1 b2 (by exact belC.out.size) ?_
             intro v6 w6 own6 gr6 at6
             have hb6 : Below wr.heap.size wr w6 := Below.own belC.out gr6 ownC.out (Nat.le_refl _) belC.out.size
             have hc06 : w6.cell? ⟨g, off + k * 2, none⟩ = some (.string a.1) := (hb6.cell (p := ⟨g, off + k * 2, none⟩) hg').trans hc0
             have hg6 : g < w6.heap.size := Nat.lt_of_lt_of_le hg' hb6.size
             obtain ⟨A6, m6, c6, e6, o6⟩ := OwnL.mk (L := a.2) own6 (by first | rfl | simp)
             subst e6
             have hB6 := blkC.out.grown gr6 (fun e => absurd (Option.some.inj e) (by simp))
             have hne6 : (Value.slice A6 m6 c6).ownBlock ≠ some (wr.heap.size) := by
               rcases at6 with e | e <;> rw [e] <;> intro h <;> simp [Value.ownBlock, World.drew] at h <;> omega
             have hNA : Hid (NewAcc wr (wr.heap.size) a.1 a.2 ((w6.setCell ⟨wr.heap.size, 0, none⟩ (.string a.1)).setCell ⟨wr.heap.size, 1, none⟩ (.slice A6 m6 c6))) := newAcc_set hB6 rfl o6 (by omega) hne6 hb6
             have c60 : w6.cell? ⟨wr.heap.size, 0, none⟩ = some (.string { data := #[] }) := hB6.cell 0
             have c61 : w6.cell? ⟨wr.heap.size, 1, none⟩ = some (.slice none 0 0) := hB6.cell 1
             have f60 : w6.frozen? ⟨wr.heap.size, 0, none⟩ = false := hB6.frozen 0
             have f61 : w6.frozen? ⟨wr.heap.size, 1, none⟩ = false := hB6.frozen 1
             clear hB6 hne6
             clear own6 gr6 at6 o6 hb6))
        all_goals
          go_wp2_with fail
          go_meet
          exact ⟨_, rfl, hNA⟩
      case rest =>
        obtain ⟨P, rfl, hNA⟩ := hcut
        obtain ⟨v9, hB9, hO9, hP9, hne9, hb9⟩ := hNA.out
        obtain ⟨A9, n9, c9, e9, o9⟩ := hO9
        subst e9
        have p0 : wc.cell? ⟨P, 0, none⟩ = some (.string a.1) := hB9.cell 0
        have p1 : wc.cell? ⟨P, 1, none⟩ = some (.slice A9 n9 c9) := hB9.cell 1
        have q1 : wc.frozen? ⟨P, 1, none⟩ = false := hB9.frozen 1
        have hs9 := hb9.size
        obtain ⟨Av, cv, ev, hcv, _⟩ := HO.out.len
        have hlen : ((withF X q F).take k).length = k := by rw [List.length_take]; have := hwl.out; omega
        rw [hlen] at ev
        subst ev
        have b3 : k + 1 ≤ maxLen := by unfold maxLen; omega
        have B4 := hide (bytes40' (k + 1) (by omega))
        have htk := hide (withF_take (q := q) F Ha.out)
        have HBc := hide hb9
        have HB9 := hide hB9
        have HO9 := hide o9
        have hone : ∀ (A : Option Addr) (n c : Nat), ∀ u ∈ [Value.string a.1, .slice A n c], u.oneCell' = true := by
          intro A n c u hu
          simp at hu
          rcases hu with rfl | rfl <;> rfl
        have Hone := hide hone
        clear hb9 hB9 o9 hone hlen hNA hcv Src
        by_cases hkq : k = q
        · have e1 : ((k : Int) == (q : Int)) = true := by rw [beq_iff_eq]; omega
          have htk2 : Hid ((withF X q F).take (k + 1) = (withF X q F).take k ++ [(a.1, F)]) := by
            have h := htk.out
            rw [if_pos hkq] at h; exact h
          have hgr : wc.grownBy (wc.setCell ⟨P, 1, none⟩ (.slice A' n' c')) (some P) := ⟨rfl, rfl, rfl, by simp, fun j _ hj => heap_setCell_other wc ⟨P, 1, none⟩ j _ (fun e => hj (by simp [e]))⟩
          have hBw := HBc.out.grown hgr hs9 (fun j hj => by injection hj; omega)
          have hB9' : Blk (wc.setCell ⟨P, 1, none⟩ (.slice A' n' c')) P 31 #[.string a.1, .slice A' n' c'] := by
            have h := HB9.out.set_ 1 (.slice A' n' c')
            simpa using h
          have hws : (wc.setCell ⟨P, 1, none⟩ (.slice A' n' c')).heap.size = wc.heap.size := by simp
          obtain ⟨Ax, nx, cx, xs, ex, hXx, hRx⟩ := HO.out.below hBw
          injection ex with ex1 ex2 ex3
          subst ex1 ex2 ex3
          have HXx := hide hXx
          have HRx := hide hRx
          have HF1 := hide ((HFl.out.keep (w' := wc.setCell ⟨P, 1, none⟩ (.slice A' n' c')) fun p hp => hBw.cell hp.2.1).more (ok' := fun b => W0.heap.size ≤ b ∧ b < (wc.setCell ⟨P, 1, none⟩ (.slice A' n' c')).heap.size ∧ (Value.slice Av k cv).ownBlock ≠ some b) fun b hb => ⟨hb.1, by rw [hws]; omega, hb.2.2⟩)
          have HG := HF1
          have HB1 := hide (HB.out.trans (hBw.mono hsB))
          have src7 : Hid (Rd ((wc.setCell ⟨P, 1, none⟩ (.slice A' n' c')).alloc (.cells #[Value.string a.1, .slice A' n' c'] 31)) (wc.heap.size + 1) 2 (some ⟨wc.heap.size, 0, none⟩) 1 [Value.string a.1, .slice A' n' c']) := by
            have h := Rd.two (wc.setCell ⟨P, 1, none⟩ (.slice A' n' c')) 31 (.string a.1) (.slice A' n' c')
            rw [hws] at h
            exact h
          clear hkq hgr hBw hXx hRx
          go_wp2_with (
            (at_builtin
             refine wpList_append_rd _ rfl (.tmp 35) (.tmp 37) _ rfl W0.heap.size 31 i1 _ 2 40 hUA hi1 hy0 hy1 hy2 rfl (by omega) (.slice Av k cv) k xs rfl (HXx.out.alloc _) (wc.heap.size + 1) (some ⟨wc.heap.size, 0, none⟩) 1 _ [Value.string a.1, .slice A' n' c'] rfl (by exact src7.out) (Hone.out _ _ _) b3 B4.out (by simp; omega) ?_
             intro v7 w7 own7 gr7 at7
             have H7 := hide (with_step HXx.out HRx.out HG.out HF1.out HB1.out htk2.out own7 gr7 at7)
             clear own7 gr7 at7))
          go_roundw
          case rel => exact ⟨k + 1, by omega, by go_num, by have := H7.out.2; rw [hws] at this; omega, H7.out.1⟩
          case measure => simp [intOf]; omega
        · have e1 : ((k : Int) == (q : Int)) = false := by rw [beq_eq_false_iff_ne]; omega
          have htk2 : Hid ((withF X q F).take (k + 1) = (withF X q F).take k ++ [(a.1, a.2)]) := by
            have h := htk.out
            rw [if_neg hkq] at h; exact h
          obtain ⟨Ax, nx, cx, xs, ex, hXx, hRx⟩ := HO.out.below HBc.out
          injection ex with ex1 ex2 ex3
          subst ex1 ex2 ex3
          have HXx := hide hXx
          have HRx := hide hRx
          have HF1 := hide ((HFl.out.keep (w' := wc) fun p hp => HBc.out.cell hp.2.1).more (ok' := fun b => W0.heap.size ≤ b ∧ b < wc.heap.size ∧ (Value.slice Av k cv).ownBlock ≠ some b) fun b hb => ⟨hb.1, by omega, hb.2.2⟩)
          have HG := hide ((Fls.of_own HO9.out).more (ok' := fun b => W0.heap.size ≤ b ∧ b < wc.heap.size ∧ (Value.slice Av k cv).ownBlock ≠ some b) fun b hb => ⟨by omega, hb.2.1, fun e => by have := (HO.out.lt b e).2; omega⟩)
          have HB1 := hide (HB.out.trans (HBc.out.mono hsB))
          have src7 := hide (Rd.two wc 31 (.string a.1) (.slice A9 n9 c9))
          clear hkq hXx hRx
          go_wp2_with (
            (at_builtin
             refine wpList_append_rd _ rfl (.tmp 35) (.tmp 37) _ rfl W0.heap.size 31 i1 _ 2 40 hUA hi1 hy0 hy1 hy2 rfl (by omega) (.slice Av k cv) k xs rfl (HXx.out.alloc _) (wc.heap.size + 1) (some ⟨wc.heap.size, 0, none⟩) 1 _ [Value.string a.1, .slice A9 n9 c9] rfl (by exact src7.out) (Hone.out _ _ _) b3 B4.out (by simp; omega) ?_
             intro v7 w7 own7 gr7 at7
             have H7 := hide (with_step HXx.out HRx.out HG.out HF1.out HB1.out htk2.out own7 gr7 at7)
             clear own7 gr7 at7))
          go_roundw
          case rel => exact ⟨k + 1, by omega, by go_num, by have := H7.out.2;  omega, H7.out.1⟩
          case measure => simp [intOf]; omega
    · have HE : Hid ((withF X q F).take k = withF X q F) := List.take_of_length_le (by have := hwl.out; omega)
      go_wp2_with fail
      go_ret
      obtain ⟨hO, _, hB⟩ := hat.out
      rw [HE.out] at hO
      exact ⟨_, rfl, hO, hB⟩
end Go.Proofs.Ytohodhogbdcdmab
