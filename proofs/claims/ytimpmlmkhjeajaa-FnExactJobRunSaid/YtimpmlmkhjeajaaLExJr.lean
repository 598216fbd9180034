/- Walk of the exact law of JobRun. -/
import Derived.Test.YtimpmlmkhjeajaaExJb
import Derived.Test.YtimpmlmkhjeajaaZo
import Derived.Test.YtimpmlmkhjeajaaJr
import Derived.Test.YtimpmlmkhjeajaaZl
import Derived.Deep.RegionHeld3
import Derived.Deep.CutRange
import Derived.Deep.DeepMust
set_option linter.unusedVariables false
set_option linter.unusedSimpArgs false
namespace Go.Proofs.Ytimpmlmkhjeajaa
open Go.RowKit

theorem totI_sixJ {X : List Bx} (h : ∀ a ∈ X, a.2.length ≤ 6) : totI X ≤ X.length * 6 := by
  unfold totI
  induction X with
  | nil => exact Nat.le_refl _
  | cons a X ih =>
    have h1 := h a (by simp)
    have h2 := ih fun b hb => h b (List.mem_cons_of_mem _ hb)
    simp only [List.map_cons, List.sum_cons, List.length_cons]
    omega
theorem jrun_70 (X : List Bx) (i d many : Int) (L : List ByteArray) : (((jRunM X (i, L, d) many).getD ([], jb0)).1.length + totI ((jRunM X (i, L, d) many).getD ([], jb0)).1 ≤ 70) ∧ ((jRunM X (i, L, d) many).getD ([], jb0)).2.2.1.length ≤ 10 := by
  cases ho : jRunM X (i, L, d) many with
  | none => exact ⟨Nat.zero_le _, Nat.zero_le _⟩
  | some r =>
    obtain ⟨O, x⟩ := r
    obtain ⟨N, h⟩ := jRun_some ho
    have hv := h.ran.val
    have h1 := bxsB_10 hv
    have h2 := totI_sixJ (X := O) fun a ha => idsB_6 (bxsB_bx hv ha).2.1
    have h3 := jb_10 h.jn.valid
    exact ⟨by show O.length + totI O ≤ 70; omega, h3⟩
/-- What a call hands back. -/
def RunC (w : World) (O : List Bx) (T : List ByteArray) (j1 j3 : Int) (bo : Bool) (e : Ending) (w' : World) : Prop := ∃ Aw nw cw Y Bw mw dw, e = .returned (.tuple #[.slice Aw nw cw, .agg #[.int .i64 j1, .slice Bw mw dw, .int .i64 j3], .bool bo]) ∧ bxV Y = O ∧ NestB w.heap.size w' Aw nw cw Y ∧ w'.ownsRow w.heap.size 9 1 (.slice Bw mw dw) mw (T.map Value.string) ∧ Below w.heap.size w w'
section
variable {X O : List Bx} {i d many j1 j3 : Int} {L T : List ByteArray} {bo : Bool}
theorem s_runN (ho : (jRunM X (i, L, d) many).getD ([], jb0) = (O, (j1, T, j3))) (hbo : (jRunM X (i, L, d) many).isSome = bo) (A0 : Option Addr) (n0 c0 : Nat) (A : Option Addr) (n c : Nat) (w : World) (hX : Bxs w w.heap.size A0 n0 X) (hSX : BSmall X) (hn0 : n0 ≤ maxLen) (hL : Strs w w.heap.size A n L) (hS : Small L) (hn : n ≤ maxLen) (hnc : n ≤ c) :
    Calls Try.prog 31 #[.slice A0 n0 c0, .agg #[.int .i64 i, .slice A n c, .int .i64 d], .int .i64 many] w fun e w' => RunC w O T j1 j3 bo e w' := by
  refine (s_JobRun A0 n0 c0 X i d many A n c L w hX hSX hn0 hL hS hn hnc).mono ?_
  rintro e w' ⟨Aw, nw, cw, Y, Bw, mw, dw, rfl, h1, h3, h4, _, hb⟩
  rw [ho] at h1 h4 ⊢
  rw [hbo]
  exact ⟨Aw, nw, cw, Y, Bw, mw, dw, rfl, h1, h3, h4, hb⟩
theorem i_runN (ho : (jRunM X (i, L, d) many).getD ([], jb0) = (O, (j1, T, j3))) (hbo : (jRunM X (i, L, d) many).isSome = bo) (A0 : Option Addr) (n0 c0 : Nat) (A : Option Addr) (n c : Nat) (w : World) (hX : Bxs w w.heap.size A0 n0 X) (hSX : BSmall X) (hn0 : n0 ≤ maxLen) (hL : Strs w w.heap.size A n L) (hS : Small L) (hn : n ≤ maxLen) (hnc : n ≤ c) :
    Calls Try.prog 30 #[.slice A0 n0 c0, .agg #[.int .i64 i, .slice A n c, .int .i64 d], .int .i64 many] w fun e w' => ∃ Aw nw cw Y Bw mw dw mid, e = .returned (.tuple #[.slice Aw nw cw, .agg #[.int .i64 j1, .slice Bw mw dw, .int .i64 j3], .bool bo]) ∧ bxV Y = O ∧ w.heap.size ≤ mid ∧ NestB mid w' Aw nw cw Y ∧ w'.ownsRow w.heap.size 9 1 (.slice Bw mw dw) mw (T.map Value.string) ∧ (∀ b, (Value.slice Bw mw dw).ownBlock = some b → b < mid) ∧ Below w.heap.size w w' := by
  refine (i_JobRunM A0 n0 c0 X i d many A n c L w hX hSX hn0 hL hS hn hnc).mono ?_
  rintro e w' ⟨Aw, nw, cw, Y, Bw, mw, dw, mid, rfl, h1, h2, h3, h4, h5, hb⟩
  rw [ho] at h1 h4 ⊢
  rw [hbo]
  exact ⟨Aw, nw, cw, Y, Bw, mw, dw, mid, rfl, h1, h2, h3, h4, h5, hb⟩
theorem i_runC (ho : (jRunM X (i, L, d) many).getD ([], jb0) = (O, (j1, T, j3))) (hbo : (jRunM X (i, L, d) many).isSome = bo) (A0 : Option Addr) (n0 c0 : Nat) (A : Option Addr) (n c : Nat) (w : World) (hX : Bxs w w.heap.size A0 n0 X) (hSX : BSmall X) (hn0 : n0 ≤ maxLen) (hL : Strs w w.heap.size A n L) (hS : Small L) (hn : n ≤ maxLen) (hnc : n ≤ c) :
    Calls Try.prog 30 #[.slice A0 n0 c0, .agg #[.int .i64 i, .slice A n c, .int .i64 d], .int .i64 many] w fun e w' => RunC w O T j1 j3 bo e w' :=
  (i_runN ho hbo A0 n0 c0 A n c w hX hSX hn0 hL hS hn hnc).mono fun _ _ ⟨Aw, nw, cw, Y, Bw, mw, dw, mid, h0, h1, h2, h3, h4, h5, hb⟩ => ⟨Aw, nw, cw, Y, Bw, mw, dw, h0, h1, h3.down h2, h4, hb⟩
end
/-- The answer, its job in block q. -/
structure RunR (w2 : World) (O : List Bx) (T : List ByteArray) (j1 j3 : Int) (Aw : Option Addr) (nw q : Nat) (Bw : Option Addr) (mw dw : Nat) (wc : World) : Prop where
  blk : Blk wc q 28 #[.int .i64 j1, .slice Bw mw dw, .int .i64 j3]
  bx : Bxs wc wc.heap.size Aw nw O
  st : Strs wc wc.heap.size Bw mw T
  below : Below w2.heap.size w2 wc
section
variable {w2 w4 w5 : World} {O : List Bx} {Y : List BxV} {T : List ByteArray} {j1 j3 : Int} {Aw Bw : Option Addr} {nw cw mw dw q : Nat} {cs : Array Value}
theorem runR_new (e5 : bxV Y = O) (n5 : NestB w4.heap.size w5 Aw nw cw Y) (o5 : w5.ownsRow w4.heap.size 9 1 (.slice Bw mw dw) mw (T.map Value.string)) (hb : Below w2.heap.size w2 w5) :
    RunR w2 O T j1 j3 Aw nw w5.heap.size Bw mw dw (w5.alloc (.cells #[.int .i64 j1, .slice Bw mw dw, .int .i64 j3] 28)) := by
  subst e5
  have h := (Below.refl w5.heap.size w5).alloc (Nat.le_refl _) (.cells #[.int .i64 j1, .slice Bw mw dw, .int .i64 j3] 28)
  exact ⟨Blk.new _ _ _, n5.bxs.on h, (Strs.of_own o5).on' h, hb.alloc hb.size _⟩
theorem runR_set (hq : Blk w5 q 28 #[.int .i64 0, .slice none 0 0, .int .i64 0]) (hq4 : q < w4.heap.size) (e5 : bxV Y = O) (n5 : NestB w4.heap.size w5 Aw nw cw Y) (o5 : w5.ownsRow w4.heap.size 9 1 (.slice Bw mw dw) mw (T.map Value.string)) (hb : Below w2.heap.size w2 w5) (h2 : w2.heap.size ≤ q) :
    RunR w2 O T j1 j3 Aw nw q Bw mw dw (((w5.setCell ⟨q, 0, none⟩ (.int .i64 j1)).setCell ⟨q, 1, none⟩ (.slice Bw mw dw)).setCell ⟨q, 2, none⟩ (.int .i64 j3)) := by
  subst e5
  exact ⟨hq.job, (nest_job n5 hq4 _ _ _).bxs, Strs.of_own (own_job o5 (fun e => by have := (o5.lt q e).1; omega) _ _ _), below_job hb h2 _ _ _⟩
end
theorem Mid.blk {base top q : Nat} {a b : World} {t : TypeId} {cs : Array Value} (h : Mid base top a b) (hq : Blk a q t cs) (ht : top ≤ q) : Blk b q t cs := (h.block q hq.lt (.inr ht)).trans hq
theorem Mid.low {base top base' : Nat} {a b : World} {e : TypeId} {size m : Nat} {v : Value} {xs : List Value} (h : Mid base top a b) (ho : a.ownsRow base' e size v m xs) (hl : ∀ q, v.ownBlock = some q → q < base) : b.ownsRow base' e size v m xs :=
  own_same ho fun q hq => h.block q (ho.lt q hq).2 (.inl (hl q hq))
theorem nest_grown {base n c : Nat} {A : Option Addr} {Y : List BxV} {w w' : World} {row : Option Nat} (h : NestB base w A n c Y) (hg : w.grownBy w' row) (hr : ∀ q, row = some q → q < base) : NestB base w' A n c Y :=
  h.kept hg.os hg.tape hg.output hg.size fun b hb => hg.block b (h.lt hb).2 fun e => by have := (h.lt hb).1; have := hr b e.symm; omega

set_option maxHeartbeats 16000000 in
set_option maxRecDepth 100000 in
theorem FnExactJobRun_walk (w : World) (A0 : Option Addr) (n0 c0 : Nat) (X : List Bx) (hX : Bxs w w.heap.size A0 n0 X) (hSX : BSmall X) (hnc0 : n0 ≤ c0) (hn0 : n0 ≤ maxLen) (i d : Int) (A : Option Addr) (n c : Nat) (L : List ByteArray) (hL : Strs w w.heap.size A n L) (hS : Small L) (hnc : n ≤ c) (hn : n ≤ maxLen) (many : Int) (_ : (Lit.int .i64 many).wf = true) :
    Calls Try.prog 18 #[.slice A0 n0 c0, .agg #[.int .i64 i, .slice A n c, .int .i64 d], .int .i64 many] w fun e w' => e = .returned (.bool true) ∧ Below w.heap.size w w' := by
  have HP := hide (Blk.new w 57 #[.int .i64 i, .slice A n c, .int .i64 d])
  have BW := hide ((Below.refl w.heap.size w).alloc (Nat.le_refl _) (.cells #[.int .i64 i, .slice A n c, .int .i64 d] 57))
  have SL := hide (hL.on' BW.out)
  have SA := hide (hX.on BW.out)
  have HS := hide hS
  have HSX := hide hSX
  have HN := hide hn
  have H70 := hide (jrun_70 X i d many L)
  clear hL hS hn hX hSX
  obtain ⟨⟨O, j1, T, j3⟩, ho2⟩ : ∃ j, (jRunM X (i, L, d) many).getD ([], jb0) = j := ⟨_, rfl⟩
  obtain ⟨bo, hbo⟩ : ∃ b, (jRunM X (i, L, d) many).isSome = b := ⟨_, rfl⟩
  have h70 := H70.out
  rw [ho2] at h70
  simp only at h70
  obtain ⟨h70, h10⟩ := h70
  have HO := hide ho2
  have HBO := hide hbo
  clear ho2 hbo H70
  have H70 := hide h70
  go_enter Try.func18, Try.ntmps18
  go_wp2_with fail
  refine (e_szB A0 n0 c0 X 1048576 _ SA.out HSX.out hn0 (by omega)).mono ?_
  rintro e w1 ⟨rfl | ⟨r, rfl, hr⟩, hb⟩
  · go_wp2_with fail
    go_ret
    exact ⟨rfl, BW.out.trans (hb.mono BW.out.size)⟩
  have hr0 : ¬ ((r : Int) < 0) := by omega
  have HR := hide hr
  replace SA := hide (SA.out.on hb)
  try clear p0 p1 p2
  replace HP := hide (HP.out.below hb HP.out.lt)
  replace SL := hide (SL.out.on' hb)
  replace BW := hide (BW.out.trans (Below.mono hb BW.out.size))
  obtain ⟨⟨p0, p1, p2⟩, _⟩ := HP.out.cells3
  clear hb hr
  go_wp2_with fail
  refine (e_szJ i d A n c L r _ SL.out HS.out HN.out (by have := HR.out; omega)).mono ?_
  rintro e w2 ⟨rfl | ⟨r2, rfl, hr2, hnr, hsl⟩, hb⟩
  · go_wp2_with fail
    go_ret
    exact ⟨rfl, BW.out.trans (hb.mono BW.out.size)⟩
  have hr20 : ¬ ((r2 : Int) < 0) := by omega
  have hnl0 : n0 ≤ 1048576 := by have := HR.out; omega
  have htl : totI X ≤ 1048576 := by have := HR.out; omega
  have hnl : n ≤ 1048576 := by have := HR.out; omega
  have HC := hide (show 1 + n0 + totI X + n ≤ 1048577 by have := HR.out; omega)
  replace SA := hide (SA.out.on hb)
  clear hsl hr2 hnr
  try clear p0 p1 p2
  replace HP := hide (HP.out.below hb HP.out.lt)
  replace SL := hide (SL.out.on' hb)
  replace BW := hide (BW.out.trans (Below.mono hb BW.out.size))
  obtain ⟨⟨p0, p1, p2⟩, _⟩ := HP.out.cells3
  clear hb HR
  go_wp2_with fail
  have hp2 := HP.out.lt
  have hbZ : Below w2.heap.size w2 ((w2.alloc (.cells #[.int .i64 0, .slice none 0 0, .int .i64 0] 28)).drew) := ((Below.refl _ _).alloc (Nat.le_refl _) _).drew
  have HbZ := hide hbZ
  have SAz := hide (SA.out.on hbZ)
  have SLz := hide (SL.out.on' hbZ)
  have PZ := hide (HP.out.below hbZ hp2).cells3.1
  have QZ : Hid (Blk ((w2.alloc (.cells #[.int .i64 0, .slice none 0 0, .int .i64 0] 28)).drew) w2.heap.size 28 #[.int .i64 0, .slice none 0 0, .int .i64 0]) := Blk.new w2 _ _
  have hwp : ∀ W : World, Below w2.heap.size w2 W → W.cell? ⟨w.heap.size, 0, none⟩ = some (.int .i64 i) ∧ W.cell? ⟨w.heap.size, 1, none⟩ = some (.slice A n c) ∧ W.cell? ⟨w.heap.size, 2, none⟩ = some (.int .i64 d) := fun W h => (HP.out.below h hp2).cells3.1
  have HWP := hide hwp
  have hsZ : ((w2.alloc (.cells #[.int .i64 0, .slice none 0 0, .int .i64 0] 28)).drew).heap.size = w2.heap.size + 1 := by simp
  have HsZ := hide hsZ
  clear hbZ hwp hp2 hsZ
  go_cut [8, 9, 10] from 32 to 41 (fun v8 v9 v10 wc => ∃ (Aw : Option Addr) (nw cw q : Nat) (Bw : Option Addr) (mw dw : Nat), v8 = .slice Aw nw cw ∧ v9 = .pointer (some ⟨q, 0, none⟩) ∧ v10 = .bool bo ∧ Hid (RunR w2 O T j1 j3 Aw nw q Bw mw dw wc))
  case first =>
    go_region_held3 (fun w' => w'.cell? ⟨w.heap.size, 0, none⟩ = some (.int .i64 i) ∧ w'.cell? ⟨w.heap.size, 1, none⟩ = some (.slice A n c) ∧ w'.cell? ⟨w.heap.size, 2, none⟩ = some (.int .i64 d)) (first | exact HP3.out | exact HP4.out | exact HP5.out | exact HP6.out | exact PZ.out | exact HWP.out _ (B3.out.alloc B3.out.size _) | exact HWP.out _ (B4.out.alloc B4.out.size _) | go_keep) (first
      | (go_at_call 53
         refine (e_toB A0 n0 c0 X _ (by exact SAz.out) hnl0 htl).mono ?_
         rintro e w3 ⟨rfl, ⟨Y3, e3, N3⟩, hb3⟩
         have hb23 : Below w2.heap.size w2 w3 := HbZ.out.trans (hb3.mono HbZ.out.size)
         have HQ3 := hide (QZ.out.below hb3 QZ.out.lt)
         have HP3 := hide (HWP.out _ hb23)
         have s3 := e3 ▸ N3.bxs
         rw [HsZ.out] at s3
         have S3 := hide s3
         have L3 := hide (SL.out.on' hb23)
         have B3 := hide hb23
         clear N3 e3 hb3 hb23 s3)
      | (go_at_call 53
         refine (e_toB A0 n0 c0 X _ (by exact SA.out) hnl0 htl).mono ?_
         rintro e w3 ⟨rfl, ⟨Y3, e3, N3⟩, hb3⟩
         have hb23 : Below w2.heap.size w2 w3 := (Below.refl _ w2).drew.trans hb3
         have HP3 := hide (HWP.out _ hb23)
         have S3 := hide (e3 ▸ N3.bxs)
         have L3 := hide (SL.out.on' hb23)
         have B3 := hide hb23
         clear N3 e3 hb3 hb23)
      | (go_at_call 41
         refine (e_toJ i d A n c L _ (by exact L3.out) hnl).mono ?_
         rintro e w4 ⟨g4, rfl, own4, hb4⟩
         have hb24 : Below w2.heap.size w2 w4 := B3.out.trans (hb4.mono B3.out.size)
         try (have HQ4 := hide (HQ3.out.below hb4 HQ3.out.lt))
         have HP4 := hide (HWP.out _ hb24)
         have S4 := hide (S3.out.on hb4)
         have L4 := hide (Strs.of_own own4)
         have B4 := hide hb24
         clear own4 hb4 hb24)
      | (go_at_call 41
         refine (e_toJ i d A n c L _ (by exact Strs.on' L3.out ((Below.refl _ _).alloc (Nat.le_refl _) _)) hnl).mono ?_
         rintro e w4 ⟨g4, rfl, own4, hb4⟩
         have hb24 : Below w2.heap.size w2 w4 := (B3.out.alloc B3.out.size _).trans (hb4.mono (by have := B3.out.size; simp; omega))
         have HQ4 := hide ((Blk.new w3 _ _).below hb4 (by simp))
         have HP4 := hide (HWP.out _ hb24)
         have S4 := hide ((S3.out.on ((Below.refl _ _).alloc (Nat.le_refl _) _)).on hb4)
         have L4 := hide (Strs.of_own own4)
         have B4 := hide hb24
         clear own4 hb4 hb24)
      | (go_at_call 31
         refine (s_runN HO.out HBO.out _ n0 n0 _ n n _ (by exact S4.out) HSX.out hn0 (by exact L4.out) HS.out HN.out (Nat.le_refl _)).mono ?_
         rintro e w5 ⟨Aw, nw, cw, Y5, Bw, mw, dw, rfl, e5, n5, o5, hb5⟩
         have HP5 := hide (HWP.out _ (B4.out.trans (hb5.mono B4.out.size)))
         have HF := hide (runR_set (j1 := j1) (j3 := j3) (HQ4.out.below hb5 HQ4.out.lt) HQ4.out.lt e5 n5 o5 (B4.out.trans (hb5.mono B4.out.size)) (by have := B4.out.size; have := B3.out.size; omega))
         obtain ⟨⟨k0, k1, k2⟩, k3, k4, k5⟩ := (HQ4.out.below hb5 HQ4.out.lt).cells3
         have HP6 := hide (HWP.out _ HF.out.below)
         clear e5 n5 o5 hb5)
      | (go_at_call 31
         refine (s_runN HO.out HBO.out _ n0 n0 _ n n _ (by exact S4.out) HSX.out hn0 (by exact L4.out) HS.out HN.out (Nat.le_refl _)).mono ?_
         rintro e w5 ⟨Aw, nw, cw, Y5, Bw, mw, dw, rfl, e5, n5, o5, hb5⟩
         have HP5 := hide (HWP.out _ (B4.out.trans (hb5.mono B4.out.size)))
         have HF := hide (runR_new (j1 := j1) (j3 := j3) e5 n5 o5 (B4.out.trans (hb5.mono B4.out.size)))
         have HP6 := hide (HWP.out _ HF.out.below)
         clear e5 n5 o5 hb5)
      | (go_at_call 31
         refine (s_runN HO.out HBO.out _ n0 n0 _ n n _ (by exact BxsP.on S4.out ((Below.refl _ _).alloc (Nat.le_refl _) _)) HSX.out hn0 (by exact Strs.on' L4.out ((Below.refl _ _).alloc (Nat.le_refl _) _)) HS.out HN.out (Nat.le_refl _)).mono ?_
         rintro e w5 ⟨Aw, nw, cw, Y5, Bw, mw, dw, rfl, e5, n5, o5, hb5⟩
         have hb25 := (B4.out.alloc B4.out.size (.cells #[.int .i64 0, .slice none 0 0, .int .i64 0] 28)).trans (hb5.mono (by have := B4.out.size; simp; omega))
         have HP5 := hide (HWP.out _ hb25)
         have HQ5 := (Blk.new w4 28 #[.int .i64 0, .slice none 0 0, .int .i64 0]).below hb5 (by simp)
         have HF := hide (runR_set (j1 := j1) (j3 := j3) HQ5 (by simp) e5 n5 o5 hb25 B4.out.size)
         obtain ⟨⟨k0, k1, k2⟩, k3, k4, k5⟩ := HQ5.cells3
         have HP6 := hide (HWP.out _ HF.out.below)
         clear e5 n5 o5 hb5 hb25 HQ5)
      | fail)
    all_goals
      go_wp2_with fail
      go_meet
      exact ⟨_, _, _, _, _, _, _, rfl, rfl, rfl, HF⟩
  case rest =>
    obtain ⟨Aw, nw, cw, q, Bw, mw, dw, rfl, rfl, rfl, HRR⟩ := hcut
    clear HbZ SAz SLz PZ QZ HWP HsZ
    have HW := hide HRR.out.blk
    have SN := hide HRR.out.bx
    have ST := hide HRR.out.st
    have hb := HRR.out.below
    replace SA := hide (SA.out.on hb)
    try clear p0 p1 p2
    replace HP := hide (HP.out.below hb HP.out.lt)
    replace SL := hide (SL.out.on' hb)
    replace BW := hide (BW.out.trans (Below.mono hb BW.out.size))
    obtain ⟨⟨p0, p1, p2⟩, _⟩ := HP.out.cells3
    clear hb HRR
    have hM4 : mw ≤ maxLen := by have := ST.out.1; unfold maxLen; omega
    go_wp2_with fail
    refine (e_toB A0 n0 c0 X _ SA.out hnl0 htl).mono ?_
    rintro e w6 ⟨rfl, ⟨Y6, e6, N6⟩, hb⟩
    have HBb := hide hb
    have OX0 := hide N6
    have HT6 : Hid (∀ b, WBlk (.slice (some ⟨wc.heap.size, 0, none⟩) n0 n0) Y6 b → b < w6.heap.size) := fun b hb => (N6.lt hb).2
    have hcn : Hid (1 + cnt (lens Y6) + n ≤ 1048577) := by
      have h1 := cnt_lens Y6
      have h2 := N6.len
      have h3 := HC.out
      rw [e6] at h1
      show _ ≤ _
      omega
    have E6 := hide e6
    clear N6 e6 hb p0 p1 p2
    obtain ⟨⟨p0, p1, p2⟩, _⟩ := (HP.out.below HBb.out HP.out.lt).cells3
    obtain ⟨⟨u0, u1, u2⟩, _⟩ := (HW.out.below HBb.out HW.out.lt).cells3
    try (obtain ⟨⟨x0, x1, x2⟩, _⟩ := HX.out.cells3)
    try (obtain ⟨⟨g0, g1, g2⟩, _⟩ := HG.out.cells3)
    go_wp2_with fail
    refine (e_toJ i d A n c L _ (SL.out.on' HBb.out) hnl).mono ?_
    rintro e w7 ⟨g7, rfl, own7, hb⟩
    have hs67 := hb.size
    have H6c := hide (HBb.out.size)
    try clear p0 p1 p2
    try clear u0 u1 u2
    try clear x0 x1 x2
    try clear g0 g1 g2
    replace HBb := hide (HBb.out.trans (Below.mono hb HBb.out.size))
    try replace OX0 := hide (OX0.out.below hb)
    try replace OX1 := hide (own_below OX1.out hb)
    try replace HX := hide (HX.out.below hb HX.out.lt)
    try replace OG0 := hide (OG0.out.below hb)
    try replace OG1 := hide (own_below OG1.out hb)
    try replace HG := hide (HG.out.below hb HG.out.lt)
    clear hb
    obtain ⟨⟨p0, p1, p2⟩, _⟩ := (HP.out.below HBb.out HP.out.lt).cells3
    obtain ⟨⟨u0, u1, u2⟩, _⟩ := (HW.out.below HBb.out HW.out.lt).cells3
    try (obtain ⟨⟨x0, x1, x2⟩, _⟩ := HX.out.cells3)
    try (obtain ⟨⟨g0, g1, g2⟩, _⟩ := HG.out.cells3)
    have OX1 := hide own7
    clear own7
    have hb := (Below.refl w7.heap.size w7).alloc (Nat.le_refl _) (.cells #[.int .i64 i, .slice (some ⟨g7, 0, none⟩) n n, .int .i64 d] 28)
    try clear p0 p1 p2
    try clear u0 u1 u2
    try clear x0 x1 x2
    try clear g0 g1 g2
    replace HBb := hide (HBb.out.trans (Below.mono hb HBb.out.size))
    try replace OX0 := hide (OX0.out.below hb)
    try replace OX1 := hide (own_below OX1.out hb)
    try replace HX := hide (HX.out.below hb HX.out.lt)
    try replace OG0 := hide (OG0.out.below hb)
    try replace OG1 := hide (own_below OG1.out hb)
    try replace HG := hide (HG.out.below hb HG.out.lt)
    clear hb
    obtain ⟨⟨p0, p1, p2⟩, _⟩ := (HP.out.below HBb.out HP.out.lt).cells3
    obtain ⟨⟨u0, u1, u2⟩, _⟩ := (HW.out.below HBb.out HW.out.lt).cells3
    try (obtain ⟨⟨x0, x1, x2⟩, _⟩ := HX.out.cells3)
    try (obtain ⟨⟨g0, g1, g2⟩, _⟩ := HG.out.cells3)
    have HX := hide (Blk.new w7 28 #[.int .i64 i, .slice (some ⟨g7, 0, none⟩) n n, .int .i64 d])
    obtain ⟨⟨x0, x1, x2⟩, _⟩ := HX.out.cells3
    go_wp2_with fail
    generalize w7.alloc (.cells #[.int .i64 i, .slice (some ⟨g7, 0, none⟩) n n, .int .i64 d] 28) = w8 at *
    have hs78 := HX.out.lt
    have TX := hide (OX1.out.lt g7 rfl)
    refine (i_runN HO.out HBO.out _ n0 n0 _ n n _ (E6.out ▸ OX0.out.bxs) HSX.out hn0 (Strs.of_own OX1.out) HS.out HN.out (Nat.le_refl _)).mono ?_
    rintro e w9 ⟨A7, n7, c7, Y7, B7, m7, d7, mid, rfl, e7, hmid, ng, og, hlow, hb⟩
    have hs89 := hb.size
    try clear p0 p1 p2
    try clear u0 u1 u2
    try clear x0 x1 x2
    try clear g0 g1 g2
    replace HBb := hide (HBb.out.trans (Below.mono hb HBb.out.size))
    try replace OX0 := hide (OX0.out.below hb)
    try replace OX1 := hide (own_below OX1.out hb)
    try replace HX := hide (HX.out.below hb HX.out.lt)
    try replace OG0 := hide (OG0.out.below hb)
    try replace OG1 := hide (own_below OG1.out hb)
    try replace HG := hide (HG.out.below hb HG.out.lt)
    clear hb
    obtain ⟨⟨p0, p1, p2⟩, _⟩ := (HP.out.below HBb.out HP.out.lt).cells3
    obtain ⟨⟨u0, u1, u2⟩, _⟩ := (HW.out.below HBb.out HW.out.lt).cells3
    try (obtain ⟨⟨x0, x1, x2⟩, _⟩ := HX.out.cells3)
    try (obtain ⟨⟨g0, g1, g2⟩, _⟩ := HG.out.cells3)
    have OG0 := hide ng
    have OG1 := hide og
    have EG := hide e7
    have HLow := hide hlow
    have hl8 := og.1
    rw [List.length_map, Nat.mul_one] at hl8
    have hm7 : m7 ≤ 10 := by omega
    have hM3 : m7 ≤ maxLen := by unfold maxLen; omega
    have hYl := ng.len
    have hY2 := cnt_lens Y7
    have hY3 := congrArg List.length e7
    rw [bxV_len] at hY3
    rw [e7] at hY2
    have hM1 : n7 ≤ maxLen := by unfold maxLen; omega
    have hcg : Hid (1 + cnt (lens Y7) ≤ 1500000) := by show _ ≤ _; omega
    have HT7 : Hid (∀ b, WBlk (.slice A7 n7 c7) Y7 b → b < w9.heap.size) := fun b hb => (ng.lt hb).2
    clear ng og e7 hlow hl8 hYl hY2 hY3
    have hb := (Below.refl w9.heap.size w9).alloc (Nat.le_refl _) (.cells #[.int .i64 j1, .slice B7 m7 d7, .int .i64 j3] 28)
    try clear p0 p1 p2
    try clear u0 u1 u2
    try clear x0 x1 x2
    try clear g0 g1 g2
    replace HBb := hide (HBb.out.trans (Below.mono hb HBb.out.size))
    try replace OX0 := hide (OX0.out.below hb)
    try replace OX1 := hide (own_below OX1.out hb)
    try replace HX := hide (HX.out.below hb HX.out.lt)
    try replace OG0 := hide (OG0.out.below hb)
    try replace OG1 := hide (own_below OG1.out hb)
    try replace HG := hide (HG.out.below hb HG.out.lt)
    clear hb
    obtain ⟨⟨p0, p1, p2⟩, _⟩ := (HP.out.below HBb.out HP.out.lt).cells3
    obtain ⟨⟨u0, u1, u2⟩, _⟩ := (HW.out.below HBb.out HW.out.lt).cells3
    try (obtain ⟨⟨x0, x1, x2⟩, _⟩ := HX.out.cells3)
    try (obtain ⟨⟨g0, g1, g2⟩, _⟩ := HG.out.cells3)
    have HG := hide (Blk.new w9 28 #[.int .i64 j1, .slice B7 m7 d7, .int .i64 j3])
    obtain ⟨⟨g0, g1, g2⟩, _⟩ := HG.out.cells3
    go_wp2_with fail
    generalize w9.alloc (.cells #[.int .i64 j1, .slice B7 m7 d7, .int .i64 j3] 28) = w10 at *
    refine (e_eqB A7 n7 c7 Aw nw cw O _ (EG.out ▸ OG0.out.bxs) (SN.out.on HBb.out) hM1).mono ?_
    rintro e w11 ⟨rfl, hb⟩
    try clear p0 p1 p2
    try clear u0 u1 u2
    try clear x0 x1 x2
    try clear g0 g1 g2
    replace HBb := hide (HBb.out.trans (Below.mono hb HBb.out.size))
    try replace OX0 := hide (OX0.out.below hb)
    try replace OX1 := hide (own_below OX1.out hb)
    try replace HX := hide (HX.out.below hb HX.out.lt)
    try replace OG0 := hide (OG0.out.below hb)
    try replace OG1 := hide (own_below OG1.out hb)
    try replace HG := hide (HG.out.below hb HG.out.lt)
    clear hb
    obtain ⟨⟨p0, p1, p2⟩, _⟩ := (HP.out.below HBb.out HP.out.lt).cells3
    obtain ⟨⟨u0, u1, u2⟩, _⟩ := (HW.out.below HBb.out HW.out.lt).cells3
    try (obtain ⟨⟨x0, x1, x2⟩, _⟩ := HX.out.cells3)
    try (obtain ⟨⟨g0, g1, g2⟩, _⟩ := HG.out.cells3)
    go_wp2_with fail
    refine (e_eqJ j1 j3 B7 m7 d7 Bw mw dw T _ (Strs.of_own OG1.out) (ST.out.on' HBb.out) hM3 hM4).mono ?_
    rintro e w12 ⟨rfl, hb⟩
    try clear p0 p1 p2
    try clear u0 u1 u2
    try clear x0 x1 x2
    try clear g0 g1 g2
    replace HBb := hide (HBb.out.trans (Below.mono hb HBb.out.size))
    try replace OX0 := hide (OX0.out.below hb)
    try replace OX1 := hide (own_below OX1.out hb)
    try replace HX := hide (HX.out.below hb HX.out.lt)
    try replace OG0 := hide (OG0.out.below hb)
    try replace OG1 := hide (own_below OG1.out hb)
    try replace HG := hide (HG.out.below hb HG.out.lt)
    clear hb
    obtain ⟨⟨p0, p1, p2⟩, _⟩ := (HP.out.below HBb.out HP.out.lt).cells3
    obtain ⟨⟨u0, u1, u2⟩, _⟩ := (HW.out.below HBb.out HW.out.lt).cells3
    try (obtain ⟨⟨x0, x1, x2⟩, _⟩ := HX.out.cells3)
    try (obtain ⟨⟨g0, g1, g2⟩, _⟩ := HG.out.cells3)
    go_wp2_with fail
    refine (e_toB A0 n0 c0 X _ (SA.out.on HBb.out) hnl0 htl).mono ?_
    rintro e w13 ⟨rfl, ⟨Y13, e13, N13⟩, hb⟩
    have ST13 := hide (e13 ▸ N13.bxs)
    try clear p0 p1 p2
    try clear u0 u1 u2
    try clear x0 x1 x2
    try clear g0 g1 g2
    replace HBb := hide (HBb.out.trans (Below.mono hb HBb.out.size))
    try replace OX0 := hide (OX0.out.below hb)
    try replace OX1 := hide (own_below OX1.out hb)
    try replace HX := hide (HX.out.below hb HX.out.lt)
    try replace OG0 := hide (OG0.out.below hb)
    try replace OG1 := hide (own_below OG1.out hb)
    try replace HG := hide (HG.out.below hb HG.out.lt)
    clear hb
    obtain ⟨⟨p0, p1, p2⟩, _⟩ := (HP.out.below HBb.out HP.out.lt).cells3
    obtain ⟨⟨u0, u1, u2⟩, _⟩ := (HW.out.below HBb.out HW.out.lt).cells3
    try (obtain ⟨⟨x0, x1, x2⟩, _⟩ := HX.out.cells3)
    try (obtain ⟨⟨g0, g1, g2⟩, _⟩ := HG.out.cells3)
    clear N13 e13
    go_wp2_with fail
    refine (e_eqB _ n0 n0 _ n0 n0 X _ (E6.out ▸ OX0.out.bxs) ST13.out hn0).mono ?_
    rintro e w14 ⟨rfl, hb⟩
    try clear p0 p1 p2
    try clear u0 u1 u2
    try clear x0 x1 x2
    try clear g0 g1 g2
    replace HBb := hide (HBb.out.trans (Below.mono hb HBb.out.size))
    try replace OX0 := hide (OX0.out.below hb)
    try replace OX1 := hide (own_below OX1.out hb)
    try replace HX := hide (HX.out.below hb HX.out.lt)
    try replace OG0 := hide (OG0.out.below hb)
    try replace OG1 := hide (own_below OG1.out hb)
    try replace HG := hide (HG.out.below hb HG.out.lt)
    clear hb
    obtain ⟨⟨p0, p1, p2⟩, _⟩ := (HP.out.below HBb.out HP.out.lt).cells3
    obtain ⟨⟨u0, u1, u2⟩, _⟩ := (HW.out.below HBb.out HW.out.lt).cells3
    try (obtain ⟨⟨x0, x1, x2⟩, _⟩ := HX.out.cells3)
    try (obtain ⟨⟨g0, g1, g2⟩, _⟩ := HG.out.cells3)
    clear ST13
    go_wp2_with fail
    have hx9 := HX.out.lt
    have PB := hide (HP.out.below HBb.out HP.out.lt)
    have hp9 := PB.out.lt
    have SL9 := hide (SL.out.on' HBb.out)
    go_region_held3 (fun w' => (w'.cell? ⟨w7.heap.size, 0, none⟩ = some (.int .i64 i) ∧ w'.cell? ⟨w7.heap.size, 1, none⟩ = some (.slice (some ⟨g7, 0, none⟩) n n) ∧ w'.cell? ⟨w7.heap.size, 2, none⟩ = some (.int .i64 d)) ∧ w'.cell? ⟨w.heap.size, 0, none⟩ = some (.int .i64 i) ∧ w'.cell? ⟨w.heap.size, 1, none⟩ = some (.slice A n c) ∧ w'.cell? ⟨w.heap.size, 2, none⟩ = some (.int .i64 d)) (first | exact ⟨HX6.out, HP6.out⟩ | exact ⟨HX7.out, HP7.out⟩ | go_keep) (first
      | (go_at_call 41
         refine (e_toJ i d A n c L _ (by exact SL9.out) hnl).mono ?_
         rintro e w15 ⟨g10, rfl, own10, hb10⟩
         have hb910 : Below w14.heap.size w14 w15 := (Below.refl _ w14).drew.trans hb10
         have HX6 := hide (HX.out.below hb910 hx9).cells3.1
         have HP6 := hide (PB.out.below hb910 hp9).cells3.1
         have S10 := hide (Strs.of_own own10)
         have SX10 := hide ((Strs.of_own OX1.out).on' hb910)
         have Hb910 := hide hb910
         clear own10 hb10 hb910)
      | (go_at_call 42
         refine (e_eqJ i d _ n n _ n n L _ (by exact SX10.out) (by exact S10.out) HN.out HN.out).mono ?_
         rintro e w16 ⟨rfl, hb11⟩
         have hb : Below w14.heap.size w14 w16 := Hb910.out.trans (hb11.mono Hb910.out.size)
         have HX7 := hide (HX.out.below hb hx9).cells3.1
         have HP7 := hide (PB.out.below hb hp9).cells3.1
         clear hb11)
      | fail)
    clear PB hx9 hp9 SL9
    try clear p0 p1 p2
    try clear u0 u1 u2
    try clear x0 x1 x2
    try clear g0 g1 g2
    replace HBb := hide (HBb.out.trans (Below.mono hb HBb.out.size))
    try replace OX0 := hide (OX0.out.below hb)
    try replace OX1 := hide (own_below OX1.out hb)
    try replace HX := hide (HX.out.below hb HX.out.lt)
    try replace OG0 := hide (OG0.out.below hb)
    try replace OG1 := hide (own_below OG1.out hb)
    try replace HG := hide (HG.out.below hb HG.out.lt)
    clear hb
    obtain ⟨⟨p0, p1, p2⟩, _⟩ := (HP.out.below HBb.out HP.out.lt).cells3
    obtain ⟨⟨u0, u1, u2⟩, _⟩ := (HW.out.below HBb.out HW.out.lt).cells3
    try (obtain ⟨⟨x0, x1, x2⟩, _⟩ := HX.out.cells3)
    try (obtain ⟨⟨g0, g1, g2⟩, _⟩ := HG.out.cells3)
    go_wp2_with fail
    refine (e_marksB wc.heap.size w6.heap.size _ n0 n0 1 Y6 _ OX0.out HT6.out (by omega) (by have := hcn.out; omega)).mono ?_
    rintro e w17 ⟨rfl, _, gr⟩
    try clear p0 p1 p2
    try clear u0 u1 u2
    try clear x0 x1 x2
    try clear g0 g1 g2
    replace HBb := hide (gr.below HBb.out (Nat.le_refl _) HBb.out.size)
    replace OX1 := hide (gr.row OX1.out (Nat.le_refl _))
    replace HX := hide (gr.blk HX.out hs67)
    replace OG0 := hide (gr.nest OG0.out (by omega))
    replace OG1 := hide (gr.row OG1.out (by omega))
    replace HG := hide (gr.blk HG.out (by omega))
    clear OX0 gr HT6 E6
    obtain ⟨⟨p0, p1, p2⟩, _⟩ := (HP.out.below HBb.out HP.out.lt).cells3
    obtain ⟨⟨u0, u1, u2⟩, _⟩ := (HW.out.below HBb.out HW.out.lt).cells3
    try (obtain ⟨⟨x0, x1, x2⟩, _⟩ := HX.out.cells3)
    try (obtain ⟨⟨g0, g1, g2⟩, _⟩ := HG.out.cells3)
    go_wp2_with fail
    refine (e_markJ i d _ _ n n (1 + cnt (lens Y6)) L _ OX1.out (by omega) (by have := hcn.out; omega) (by omega)).mono ?_
    rintro e w18 ⟨rfl, _, gr⟩
    have hrow : ∀ q, (Value.slice (some ⟨g7, 0, none⟩) n n).ownBlock = some q → w6.heap.size ≤ q ∧ q < w8.heap.size := fun q h1 => by simp [Value.ownBlock] at h1; subst h1; exact TX.out
    replace OG0 := hide (nest_grown OG0.out gr (fun q h1 => by have := (hrow q h1).2; omega))
    replace OG1 := hide (own_grown OG1.out gr (fun b h1 h2 => by have h3 := (OG1.out.lt b h1).1; have h4 := (hrow b h2).2; omega))
    have hwc6 := H6c.out
    try clear p0 p1 p2
    try clear u0 u1 u2
    try clear x0 x1 x2
    try clear g0 g1 g2
    replace HBb := hide (HBb.out.grown gr HBb.out.size (fun q h1 => by have h3 := (hrow q h1).1; omega))
    try replace HX := hide (HX.out.grown gr (blk_not_row HX.out (by decide) OX1.out))
    try replace HG := hide (HG.out.grown gr (blk_not_row HG.out (by decide) OX1.out))
    clear OX1 HX gr hrow
    obtain ⟨⟨p0, p1, p2⟩, _⟩ := (HP.out.below HBb.out HP.out.lt).cells3
    obtain ⟨⟨u0, u1, u2⟩, _⟩ := (HW.out.below HBb.out HW.out.lt).cells3
    try (obtain ⟨⟨x0, x1, x2⟩, _⟩ := HX.out.cells3)
    try (obtain ⟨⟨g0, g1, g2⟩, _⟩ := HG.out.cells3)
    have hneg : ¬ (((1 + cnt (lens Y6) + n : Nat) : Int) < 0) := by omega
    clear hcn
    generalize 1 + cnt (lens Y6) + n = k18 at *
    go_wp2_with fail
    refine (e_eqB A7 n7 c7 Aw nw cw O _ (EG.out ▸ OG0.out.bxs) (SN.out.on HBb.out) hM1).mono ?_
    rintro e w19 ⟨rfl, hb⟩
    try clear p0 p1 p2
    try clear u0 u1 u2
    try clear x0 x1 x2
    try clear g0 g1 g2
    replace HBb := hide (HBb.out.trans (Below.mono hb HBb.out.size))
    try replace OX0 := hide (OX0.out.below hb)
    try replace OX1 := hide (own_below OX1.out hb)
    try replace HX := hide (HX.out.below hb HX.out.lt)
    try replace OG0 := hide (OG0.out.below hb)
    try replace OG1 := hide (own_below OG1.out hb)
    try replace HG := hide (HG.out.below hb HG.out.lt)
    clear hb
    obtain ⟨⟨p0, p1, p2⟩, _⟩ := (HP.out.below HBb.out HP.out.lt).cells3
    obtain ⟨⟨u0, u1, u2⟩, _⟩ := (HW.out.below HBb.out HW.out.lt).cells3
    try (obtain ⟨⟨x0, x1, x2⟩, _⟩ := HX.out.cells3)
    try (obtain ⟨⟨g0, g1, g2⟩, _⟩ := HG.out.cells3)
    go_wp2_with fail
    refine (e_eqJ j1 j3 B7 m7 d7 Bw mw dw T _ (Strs.of_own OG1.out) (ST.out.on' HBb.out) hM3 hM4).mono ?_
    rintro e w20 ⟨rfl, hb⟩
    try clear p0 p1 p2
    try clear u0 u1 u2
    try clear x0 x1 x2
    try clear g0 g1 g2
    replace HBb := hide (HBb.out.trans (Below.mono hb HBb.out.size))
    try replace OX0 := hide (OX0.out.below hb)
    try replace OX1 := hide (own_below OX1.out hb)
    try replace HX := hide (HX.out.below hb HX.out.lt)
    try replace OG0 := hide (OG0.out.below hb)
    try replace OG1 := hide (own_below OG1.out hb)
    try replace HG := hide (HG.out.below hb HG.out.lt)
    clear hb
    obtain ⟨⟨p0, p1, p2⟩, _⟩ := (HP.out.below HBb.out HP.out.lt).cells3
    obtain ⟨⟨u0, u1, u2⟩, _⟩ := (HW.out.below HBb.out HW.out.lt).cells3
    try (obtain ⟨⟨x0, x1, x2⟩, _⟩ := HX.out.cells3)
    try (obtain ⟨⟨g0, g1, g2⟩, _⟩ := HG.out.cells3)
    go_wp2_with fail
    refine (e_marksB mid w9.heap.size A7 n7 c7 1 Y7 _ OG0.out HT7.out (by omega) hcg.out).mono ?_
    rintro e w21 ⟨rfl, ⟨Z, NZ, eZ, _⟩, gr⟩
    try clear p0 p1 p2
    try clear u0 u1 u2
    try clear x0 x1 x2
    try clear g0 g1 g2
    replace HBb := hide (gr.below HBb.out (by omega) HBb.out.size)
    replace OG1 := hide (gr.low OG1.out HLow.out)
    replace HG := hide (gr.blk HG.out (Nat.le_refl _))
    replace OG0 := hide NZ
    have EZ := hide eZ
    clear NZ eZ gr HT7 EG
    obtain ⟨⟨p0, p1, p2⟩, _⟩ := (HP.out.below HBb.out HP.out.lt).cells3
    obtain ⟨⟨u0, u1, u2⟩, _⟩ := (HW.out.below HBb.out HW.out.lt).cells3
    try (obtain ⟨⟨x0, x1, x2⟩, _⟩ := HX.out.cells3)
    try (obtain ⟨⟨g0, g1, g2⟩, _⟩ := HG.out.cells3)
    go_wp2_with fail
    refine (e_markJ j1 j3 _ B7 m7 d7 (1 + cnt (lens Y7)) T _ OG1.out (by omega) (by have := hcg.out; omega) (by omega)).mono ?_
    rintro e w22 ⟨rfl, og1, gr⟩
    replace OG0 := hide (nest_grown OG0.out gr (fun q h1 => HLow.out q h1))
    try clear p0 p1 p2
    try clear u0 u1 u2
    try clear x0 x1 x2
    try clear g0 g1 g2
    replace HBb := hide (HBb.out.grown gr HBb.out.size (fun q h1 => by have h3 := (OG1.out.lt q h1).1; omega))
    try replace HX := hide (HX.out.grown gr (blk_not_row HX.out (by decide) OG1.out))
    try replace HG := hide (HG.out.grown gr (blk_not_row HG.out (by decide) OG1.out))
    replace OG1 := hide og1
    clear og1 gr
    obtain ⟨⟨p0, p1, p2⟩, _⟩ := (HP.out.below HBb.out HP.out.lt).cells3
    obtain ⟨⟨u0, u1, u2⟩, _⟩ := (HW.out.below HBb.out HW.out.lt).cells3
    try (obtain ⟨⟨x0, x1, x2⟩, _⟩ := HX.out.cells3)
    try (obtain ⟨⟨g0, g1, g2⟩, _⟩ := HG.out.cells3)
    have hng1 : ¬ (((1 + cnt (lens Y7) : Nat) : Int) < 0) := by omega
    have hng2 : ¬ (((1 + cnt (lens Y7) + m7 : Nat) : Int) < 0) := by omega
    go_wp2_with fail
    refine (e_heldB A7 n7 c7 1 _ _ (EZ.out ▸ OG0.out.bxs) (by omega) hcg.out).mono ?_
    rintro e w23 ⟨rfl, hb⟩
    try clear p0 p1 p2
    try clear u0 u1 u2
    try clear x0 x1 x2
    try clear g0 g1 g2
    replace HBb := hide (HBb.out.trans (Below.mono hb HBb.out.size))
    try replace OX0 := hide (OX0.out.below hb)
    try replace OX1 := hide (own_below OX1.out hb)
    try replace HX := hide (HX.out.below hb HX.out.lt)
    try replace OG0 := hide (OG0.out.below hb)
    try replace OG1 := hide (own_below OG1.out hb)
    try replace HG := hide (HG.out.below hb HG.out.lt)
    clear hb
    obtain ⟨⟨p0, p1, p2⟩, _⟩ := (HP.out.below HBb.out HP.out.lt).cells3
    obtain ⟨⟨u0, u1, u2⟩, _⟩ := (HW.out.below HBb.out HW.out.lt).cells3
    try (obtain ⟨⟨x0, x1, x2⟩, _⟩ := HX.out.cells3)
    try (obtain ⟨⟨g0, g1, g2⟩, _⟩ := HG.out.cells3)
    go_wp2_with fail
    refine (e_heldJ j1 j3 B7 m7 d7 (1 + cnt (lens Y7)) _ (Strs.of_own OG1.out) (by omega) (by have := hcg.out; omega) (by omega)).mono ?_
    rintro e w24 ⟨rfl, hb⟩
    try clear p0 p1 p2
    try clear u0 u1 u2
    try clear x0 x1 x2
    try clear g0 g1 g2
    replace HBb := hide (HBb.out.trans (Below.mono hb HBb.out.size))
    try replace OX0 := hide (OX0.out.below hb)
    try replace OX1 := hide (own_below OX1.out hb)
    try replace HX := hide (HX.out.below hb HX.out.lt)
    try replace OG0 := hide (OG0.out.below hb)
    try replace OG1 := hide (own_below OG1.out hb)
    try replace HG := hide (HG.out.below hb HG.out.lt)
    clear hb
    obtain ⟨⟨p0, p1, p2⟩, _⟩ := (HP.out.below HBb.out HP.out.lt).cells3
    obtain ⟨⟨u0, u1, u2⟩, _⟩ := (HW.out.below HBb.out HW.out.lt).cells3
    try (obtain ⟨⟨x0, x1, x2⟩, _⟩ := HX.out.cells3)
    try (obtain ⟨⟨g0, g1, g2⟩, _⟩ := HG.out.cells3)
    have PB := hide (HP.out.below HBb.out HP.out.lt)
    have SA9 := hide (SA.out.on HBb.out)
    have SL9 := hide (SL.out.on' HBb.out)
    go_wp2_with fail
    have hp2 := PB.out.lt
    have hbZ : Below w24.heap.size w24 ((w24.alloc (.cells #[.int .i64 0, .slice none 0 0, .int .i64 0] 28)).drew) := ((Below.refl _ _).alloc (Nat.le_refl _) _).drew
    have HbZ := hide hbZ
    have SAz := hide (SA9.out.on hbZ)
    have SLz := hide (SL9.out.on' hbZ)
    have PZ := hide (PB.out.below hbZ hp2).cells3.1
    have QZ : Hid (Blk ((w24.alloc (.cells #[.int .i64 0, .slice none 0 0, .int .i64 0] 28)).drew) w24.heap.size 28 #[.int .i64 0, .slice none 0 0, .int .i64 0]) := Blk.new w24 _ _
    have hwp : ∀ W : World, Below w24.heap.size w24 W → W.cell? ⟨w.heap.size, 0, none⟩ = some (.int .i64 i) ∧ W.cell? ⟨w.heap.size, 1, none⟩ = some (.slice A n c) ∧ W.cell? ⟨w.heap.size, 2, none⟩ = some (.int .i64 d) := fun W h => (PB.out.below h hp2).cells3.1
    have HWP := hide hwp
    have hsZ : ((w24.alloc (.cells #[.int .i64 0, .slice none 0 0, .int .i64 0] 28)).drew).heap.size = w24.heap.size + 1 := by simp
    have HsZ := hide hsZ
    clear hbZ hwp hp2 hsZ
    go_cut [19, 20, 21] from 123 to 132 (fun v8 v9 v10 wc => ∃ (Aw : Option Addr) (nw cw q : Nat) (Bw : Option Addr) (mw dw : Nat), v8 = .slice Aw nw cw ∧ v9 = .pointer (some ⟨q, 0, none⟩) ∧ v10 = .bool bo ∧ Hid (RunR w24 O T j1 j3 Aw nw q Bw mw dw wc))
    case first =>
      go_region_held3 (fun w' => w'.cell? ⟨w.heap.size, 0, none⟩ = some (.int .i64 i) ∧ w'.cell? ⟨w.heap.size, 1, none⟩ = some (.slice A n c) ∧ w'.cell? ⟨w.heap.size, 2, none⟩ = some (.int .i64 d)) (first | exact HP3.out | exact HP4.out | exact HP5.out | exact HP6.out | exact PZ.out | exact HWP.out _ (B3.out.alloc B3.out.size _) | exact HWP.out _ (B4.out.alloc B4.out.size _) | go_keep) (first
        | (go_at_call 53
           refine (e_toB A0 n0 c0 X _ (by exact SAz.out) hnl0 htl).mono ?_
           rintro e w3 ⟨rfl, ⟨Y3, e3, N3⟩, hb3⟩
           have hb23 : Below w24.heap.size w24 w3 := HbZ.out.trans (hb3.mono HbZ.out.size)
           have HQ3 := hide (QZ.out.below hb3 QZ.out.lt)
           have HP3 := hide (HWP.out _ hb23)
           have s3 := e3 ▸ N3.bxs
           rw [HsZ.out] at s3
           have S3 := hide s3
           have L3 := hide (SL9.out.on' hb23)
           have B3 := hide hb23
           clear N3 e3 hb3 hb23 s3)
        | (go_at_call 53
           refine (e_toB A0 n0 c0 X _ (by exact SA9.out) hnl0 htl).mono ?_
           rintro e w3 ⟨rfl, ⟨Y3, e3, N3⟩, hb3⟩
           have hb23 : Below w24.heap.size w24 w3 := (Below.refl _ w24).drew.trans hb3
           have HP3 := hide (HWP.out _ hb23)
           have S3 := hide (e3 ▸ N3.bxs)
           have L3 := hide (SL9.out.on' hb23)
           have B3 := hide hb23
           clear N3 e3 hb3 hb23)
        | (go_at_call 41
           refine (e_toJ i d A n c L _ (by exact L3.out) hnl).mono ?_
           rintro e w4 ⟨g4, rfl, own4, hb4⟩
           have hb24 : Below w24.heap.size w24 w4 := B3.out.trans (hb4.mono B3.out.size)
           try (have HQ4 := hide (HQ3.out.below hb4 HQ3.out.lt))
           have HP4 := hide (HWP.out _ hb24)
           have S4 := hide (S3.out.on hb4)
           have L4 := hide (Strs.of_own own4)
           have B4 := hide hb24
           clear own4 hb4 hb24)
        | (go_at_call 41
           refine (e_toJ i d A n c L _ (by exact Strs.on' L3.out ((Below.refl _ _).alloc (Nat.le_refl _) _)) hnl).mono ?_
           rintro e w4 ⟨g4, rfl, own4, hb4⟩
           have hb24 : Below w24.heap.size w24 w4 := (B3.out.alloc B3.out.size _).trans (hb4.mono (by have := B3.out.size; simp; omega))
           have HQ4 := hide ((Blk.new w3 _ _).below hb4 (by simp))
           have HP4 := hide (HWP.out _ hb24)
           have S4 := hide ((S3.out.on ((Below.refl _ _).alloc (Nat.le_refl _) _)).on hb4)
           have L4 := hide (Strs.of_own own4)
           have B4 := hide hb24
           clear own4 hb4 hb24)
        | (go_at_call 30
           refine (i_runC HO.out HBO.out _ n0 n0 _ n n _ (by exact S4.out) HSX.out hn0 (by exact L4.out) HS.out HN.out (Nat.le_refl _)).mono ?_
           rintro e w5 ⟨Aw, nw, cw, Y5, Bw, mw, dw, rfl, e5, n5, o5, hb5⟩
           have HP5 := hide (HWP.out _ (B4.out.trans (hb5.mono B4.out.size)))
           have HF := hide (runR_set (j1 := j1) (j3 := j3) (HQ4.out.below hb5 HQ4.out.lt) HQ4.out.lt e5 n5 o5 (B4.out.trans (hb5.mono B4.out.size)) (by have := B4.out.size; have := B3.out.size; omega))
           obtain ⟨⟨k0, k1, k2⟩, k3, k4, k5⟩ := (HQ4.out.below hb5 HQ4.out.lt).cells3
           have HP6 := hide (HWP.out _ HF.out.below)
           clear e5 n5 o5 hb5)
        | (go_at_call 30
           refine (i_runC HO.out HBO.out _ n0 n0 _ n n _ (by exact S4.out) HSX.out hn0 (by exact L4.out) HS.out HN.out (Nat.le_refl _)).mono ?_
           rintro e w5 ⟨Aw, nw, cw, Y5, Bw, mw, dw, rfl, e5, n5, o5, hb5⟩
           have HP5 := hide (HWP.out _ (B4.out.trans (hb5.mono B4.out.size)))
           have HF := hide (runR_new (j1 := j1) (j3 := j3) e5 n5 o5 (B4.out.trans (hb5.mono B4.out.size)))
           have HP6 := hide (HWP.out _ HF.out.below)
           clear e5 n5 o5 hb5)
        | (go_at_call 30
           refine (i_runC HO.out HBO.out _ n0 n0 _ n n _ (by exact BxsP.on S4.out ((Below.refl _ _).alloc (Nat.le_refl _) _)) HSX.out hn0 (by exact Strs.on' L4.out ((Below.refl _ _).alloc (Nat.le_refl _) _)) HS.out HN.out (Nat.le_refl _)).mono ?_
           rintro e w5 ⟨Aw, nw, cw, Y5, Bw, mw, dw, rfl, e5, n5, o5, hb5⟩
           have hb25 := (B4.out.alloc B4.out.size (.cells #[.int .i64 0, .slice none 0 0, .int .i64 0] 28)).trans (hb5.mono (by have := B4.out.size; simp; omega))
           have HP5 := hide (HWP.out _ hb25)
           have HQ5 := (Blk.new w4 28 #[.int .i64 0, .slice none 0 0, .int .i64 0]).below hb5 (by simp)
           have HF := hide (runR_set (j1 := j1) (j3 := j3) HQ5 (by simp) e5 n5 o5 hb25 B4.out.size)
           obtain ⟨⟨k0, k1, k2⟩, k3, k4, k5⟩ := HQ5.cells3
           have HP6 := hide (HWP.out _ HF.out.below)
           clear e5 n5 o5 hb5 hb25 HQ5)
        | fail)
      all_goals
        go_wp2_with fail
        go_meet
        exact ⟨_, _, _, _, _, _, _, rfl, rfl, rfl, HF⟩
    case rest =>
      obtain ⟨A8, n8, c8, q8, B8, m8, d8, rfl, rfl, rfl, HRR⟩ := hcut
      clear HbZ SAz SLz PZ QZ HWP HsZ PB SA9 SL9
      have HH := hide HRR.out.blk
      have SN8 := hide HRR.out.bx
      have ST8 := hide HRR.out.st
      have hb := HRR.out.below
      try clear p0 p1 p2
      try clear u0 u1 u2
      try clear x0 x1 x2
      try clear g0 g1 g2
      replace HBb := hide (HBb.out.trans (Below.mono hb HBb.out.size))
      try replace OX0 := hide (OX0.out.below hb)
      try replace OX1 := hide (own_below OX1.out hb)
      try replace HX := hide (HX.out.below hb HX.out.lt)
      try replace OG0 := hide (OG0.out.below hb)
      try replace OG1 := hide (own_below OG1.out hb)
      try replace HG := hide (HG.out.below hb HG.out.lt)
      clear hb
      obtain ⟨⟨p0, p1, p2⟩, _⟩ := (HP.out.below HBb.out HP.out.lt).cells3
      obtain ⟨⟨u0, u1, u2⟩, _⟩ := (HW.out.below HBb.out HW.out.lt).cells3
      try (obtain ⟨⟨x0, x1, x2⟩, _⟩ := HX.out.cells3)
      try (obtain ⟨⟨g0, g1, g2⟩, _⟩ := HG.out.cells3)
      clear HRR
      have hl8 := SN8.out.1
      have hn8 : n8 ≤ maxLen := by unfold maxLen; omega
      have hm8 : m8 ≤ maxLen := by have := ST8.out.1; unfold maxLen; omega
      go_wp2_with fail
      refine (e_eqB A8 n8 c8 Aw nw cw O _ SN8.out (SN.out.on HBb.out) hn8).mono ?_
      rintro e w26 ⟨rfl, hb⟩
      replace HH := hide (HH.out.below hb HH.out.lt)
      replace ST8 := hide (ST8.out.on' hb)
      try clear p0 p1 p2
      try clear u0 u1 u2
      try clear x0 x1 x2
      try clear g0 g1 g2
      replace HBb := hide (HBb.out.trans (Below.mono hb HBb.out.size))
      try replace OX0 := hide (OX0.out.below hb)
      try replace OX1 := hide (own_below OX1.out hb)
      try replace HX := hide (HX.out.below hb HX.out.lt)
      try replace OG0 := hide (OG0.out.below hb)
      try replace OG1 := hide (own_below OG1.out hb)
      try replace HG := hide (HG.out.below hb HG.out.lt)
      clear hb
      obtain ⟨⟨p0, p1, p2⟩, _⟩ := (HP.out.below HBb.out HP.out.lt).cells3
      obtain ⟨⟨u0, u1, u2⟩, _⟩ := (HW.out.below HBb.out HW.out.lt).cells3
      try (obtain ⟨⟨x0, x1, x2⟩, _⟩ := HX.out.cells3)
      try (obtain ⟨⟨g0, g1, g2⟩, _⟩ := HG.out.cells3)
      obtain ⟨⟨h0, h1, h2⟩, _⟩ := HH.out.cells3
      go_wp2_with fail
      refine (e_eqJ j1 j3 B8 m8 d8 Bw mw dw T _ ST8.out (ST.out.on' HBb.out) hm8 hM4).mono ?_
      rintro e w27 ⟨rfl, hb⟩
      try clear p0 p1 p2
      try clear u0 u1 u2
      try clear x0 x1 x2
      try clear g0 g1 g2
      replace HBb := hide (HBb.out.trans (Below.mono hb HBb.out.size))
      try replace OX0 := hide (OX0.out.below hb)
      try replace OX1 := hide (own_below OX1.out hb)
      try replace HX := hide (HX.out.below hb HX.out.lt)
      try replace OG0 := hide (OG0.out.below hb)
      try replace OG1 := hide (own_below OG1.out hb)
      try replace HG := hide (HG.out.below hb HG.out.lt)
      clear hb
      obtain ⟨⟨p0, p1, p2⟩, _⟩ := (HP.out.below HBb.out HP.out.lt).cells3
      obtain ⟨⟨u0, u1, u2⟩, _⟩ := (HW.out.below HBb.out HW.out.lt).cells3
      try (obtain ⟨⟨x0, x1, x2⟩, _⟩ := HX.out.cells3)
      try (obtain ⟨⟨g0, g1, g2⟩, _⟩ := HG.out.cells3)
      clear h0 h1 h2
      go_wp2_with fail
      refine (e_heldB A7 n7 c7 1 _ _ (EZ.out ▸ OG0.out.bxs) (by omega) hcg.out).mono ?_
      rintro e w28 ⟨rfl, hb⟩
      try clear p0 p1 p2
      try clear u0 u1 u2
      try clear x0 x1 x2
      try clear g0 g1 g2
      replace HBb := hide (HBb.out.trans (Below.mono hb HBb.out.size))
      try replace OX0 := hide (OX0.out.below hb)
      try replace OX1 := hide (own_below OX1.out hb)
      try replace HX := hide (HX.out.below hb HX.out.lt)
      try replace OG0 := hide (OG0.out.below hb)
      try replace OG1 := hide (own_below OG1.out hb)
      try replace HG := hide (HG.out.below hb HG.out.lt)
      clear hb
      obtain ⟨⟨p0, p1, p2⟩, _⟩ := (HP.out.below HBb.out HP.out.lt).cells3
      obtain ⟨⟨u0, u1, u2⟩, _⟩ := (HW.out.below HBb.out HW.out.lt).cells3
      try (obtain ⟨⟨x0, x1, x2⟩, _⟩ := HX.out.cells3)
      try (obtain ⟨⟨g0, g1, g2⟩, _⟩ := HG.out.cells3)
      go_wp2_with fail
      refine (e_heldJ j1 j3 B7 m7 d7 (1 + cnt (lens Y7)) _ (Strs.of_own OG1.out) (by omega) (by have := hcg.out; omega) (by omega)).mono ?_
      rintro e w29 ⟨rfl, hb⟩
      try clear p0 p1 p2
      try clear u0 u1 u2
      try clear x0 x1 x2
      try clear g0 g1 g2
      replace HBb := hide (HBb.out.trans (Below.mono hb HBb.out.size))
      try replace OX0 := hide (OX0.out.below hb)
      try replace OX1 := hide (own_below OX1.out hb)
      try replace HX := hide (HX.out.below hb HX.out.lt)
      try replace OG0 := hide (OG0.out.below hb)
      try replace OG1 := hide (own_below OG1.out hb)
      try replace HG := hide (HG.out.below hb HG.out.lt)
      clear hb
      obtain ⟨⟨p0, p1, p2⟩, _⟩ := (HP.out.below HBb.out HP.out.lt).cells3
      obtain ⟨⟨u0, u1, u2⟩, _⟩ := (HW.out.below HBb.out HW.out.lt).cells3
      try (obtain ⟨⟨x0, x1, x2⟩, _⟩ := HX.out.cells3)
      try (obtain ⟨⟨g0, g1, g2⟩, _⟩ := HG.out.cells3)
      go_wp2_with fail
      go_ret
      exact ⟨rfl, BW.out.trans (HBb.out.mono BW.out.size)⟩
end Go.Proofs.Ytimpmlmkhjeajaa
