/- JobNext of the spec. -/
import Derived.Test.YtimpmlmkhjeajaaZe
import Derived.Deep.RegionHeld3
import Derived.Deep.RegionLaw
import Derived.WalkLawsBesides
set_option linter.unusedVariables false
set_option linter.unusedSimpArgs false
namespace Go.Proofs.Ytimpmlmkhjeajaa
open Go.RowKit

/-- How many are done behind the next ones, in the three ways of its reckoning. -/
theorem jEnd_ways {i d many : Int} {L : List ByteArray} {n : Nat} (hl : L.length = n) (hv : jbB (i, L, d) = true) (hm : 0 ≤ many) :
    ((n : Int) < many ∨ (many ≤ (n : Int) ∧ (n : Int) ≤ d + many)) ∧ jEnd (i, L, d) many = n ∨ (many ≤ (n : Int) ∧ d + many < (n : Int)) ∧ ((jEnd (i, L, d) many : Nat) : Int) = d + many := by
  have h := jb_done hv
  simp only at h
  unfold jEnd
  simp only [hl]
  omega

section
variable {P : Program}
/-- 'x[d:e]'. -/
theorem slice_mid {t el : TypeId} {i : TypeInfo} (ht : P.underlying t = some (.slice el)) (hi : P.info? el = some i) (hsz : i.size = 1) (A : Option Addr) (n c d e : Nat) (z1 z2 : Int) (h1 : z1 = (d : Int)) (h2 : z2 = (e : Int)) (hde : d ≤ e) (hen : e ≤ n) (hnc : n ≤ c) :
    ∃ E, (∀ W : World, (Instr.slice t (.slice A n c) (some (.int .i64 z1)) (some (.int .i64 z2)) none).run P W = .ok (.slice E (e - d) (c - d)) W) ∧ ∀ w B L, Strs w B A n L → Strs w B E (e - d) ((L.take e).drop d) := by
  subst h1 h2
  refine ⟨if c = d then A else A.map (·.add (d * i.size)), fun W => ?_, fun w B L h => ?_⟩
  · have h1 := run_slice_lh (P := P) W t A n c (by rw [ht, elem_of_underlying ht]) .i64 .i64 (d : Int) (e : Int) (by omega) (by omega) (by omega)
    rw [h1, elem_of_underlying ht, size_run hi]
    simp only [Result.andThen, sliced, Int.toNat_natCast]
  · refine ⟨by rw [List.length_drop, List.length_take, h.1]; omega, fun h0 => ?_⟩
    obtain ⟨g, off, rfl, hb, hc⟩ := h.2 (by omega)
    rw [if_neg (by omega)]
    refine ⟨g, off + d, by rw [Option.map_some, add_at, hsz, Nat.mul_one], hb, fun j u hu => ?_⟩
    rw [Nat.add_assoc]
    rw [List.getElem?_drop, List.getElem?_take] at hu
    split at hu
    · exact hc _ u hu
    · cases hu
end

/-- Behind the first append: its row, and the second one's, of which nothing is there yet. -/
structure Aft (w1 w7 : World) (v : Value) (q k : Nat) (M : List ByteArray) : Prop where
  own : w7.ownsRow w1.heap.size 9 1 v k (M.map Value.string)
  row : w7.ownsRow w1.heap.size 9 1 (.slice (some ⟨q, 0, none⟩) 0 0) 0 (([] : List ByteArray).map Value.string)
  ne : v.ownBlock ≠ some q
  below : Below w1.heap.size w1 w7
structure Fin (w1 w9 : World) (v u : Value) (k n : Nat) (M L : List ByteArray) : Prop where
  own : w9.ownsRow w1.heap.size 9 1 v k (M.map Value.string)
  two : w9.ownsRow w1.heap.size 9 1 u n (L.map Value.string)
  ne : ∀ b, v.ownBlock = some b → u.ownBlock ≠ some b
  below : Below w1.heap.size w1 w9
theorem own_e (w : World) (e : TypeId) (base : Nat) (hb : base ≤ w.heap.size) : (w.alloc (.cells #[] e)).ownsRow base e 1 (.slice (some ⟨w.heap.size, 0, none⟩) 0 0) 0 (([] : List ByteArray).map Value.string) := World.ownsRow_lit w #[] 0 hb (Nat.zero_le _) rfl
theorem aft_of {w1 W w7 : World} {b q k : Nat} {v7 : Value} {M : List ByteArray} (hW : Below w1.heap.size w1 W) (hq : W.ownsRow w1.heap.size 9 1 (.slice (some ⟨q, 0, none⟩) 0 0) 0 (([] : List ByteArray).map Value.string)) (hb : W.ownsRow w1.heap.size 9 1 (.slice (some ⟨b, 0, none⟩) 0 0) 0 (([] : List ByteArray).map Value.string)) (hbq : b ≠ q)
    (own7 : w7.ownsRow w1.heap.size 9 1 v7 (0 + k) (([] : List ByteArray).map Value.string ++ M.map Value.string)) (gr7 : W.grownBy w7 (Value.slice (some ⟨b, 0, none⟩) 0 0).ownBlock) (at7 : v7.ownBlock = (Value.slice (some ⟨b, 0, none⟩) 0 0).ownBlock ∨ v7.ownBlock = some W.heap.size) : Aft w1 w7 v7 q k M := by
  have hql := (hq.lt q rfl).2
  refine ⟨by simpa using own7, hq.kept gr7 (.inr (by simp [Value.ownBlock]; exact fun e => hbq e.symm)), ?_, Below.own hW gr7 hb (Nat.le_refl _) hW.size⟩
  rcases at7 with e | e
  · rw [e]; simp [Value.ownBlock]; exact hbq
  · rw [e]; simp; omega
theorem fin_of {w1 w7 w9 : World} {q k n : Nat} {v7 v9 : Value} {M L : List ByteArray} (h : Aft w1 w7 v7 q k M)
    (own9 : w9.ownsRow w1.heap.size 9 1 v9 (0 + n) (([] : List ByteArray).map Value.string ++ L.map Value.string)) (gr9 : w7.grownBy w9 (Value.slice (some ⟨q, 0, none⟩) 0 0).ownBlock) (at9 : v9.ownBlock = (Value.slice (some ⟨q, 0, none⟩) 0 0).ownBlock ∨ v9.ownBlock = some w7.heap.size) : Fin w1 w9 v7 v9 k n M L := by
  refine ⟨h.own.kept gr9 (.inr h.ne), by simpa using own9, fun b hb e => ?_, Below.own h.below gr9 h.row (Nat.le_refl _) h.below.size⟩
  rcases at9 with e2 | e2
  · rw [e2] at e; simp [Value.ownBlock] at e; subst e; exact h.ne hb
  · rw [e2] at e
    injection e with e
    have := (h.own.lt b hb).2
    omega

theorem jnext_end {w w1 w9 : World} {p k n c7 c9 : Nat} {i z : Int} {A7 A9 : Option Addr} {M L : List ByteArray} (h : Fin w1 w9 (.slice A7 k c7) (.slice A9 n c9) k n M L) (hp : w.heap.size ≤ p) (hp1 : p < w1.heap.size) (hb : Below w.heap.size w w1) (hs : w.heap.size ≤ w1.heap.size) :
    Own3J w (some (M, (i, L, z))) (.returned (.tuple #[.slice A7 k c7, .agg #[.int .i64 i, .slice A9 n c9, .int .i64 z], .bool true])) (((w9.setCell ⟨p, 0, none⟩ (.int .i64 i)).setCell ⟨p, 1, none⟩ (.slice A9 n c9)).setCell ⟨p, 2, none⟩ (.int .i64 z)) :=
  ⟨_, _, _, _, _, _, rfl, own_job (own_base h.own hs) (fun e => by have := (h.own.lt p e).1; omega) _ _ _, own_job (own_base h.two hs) (fun e => by have := (h.two.lt p e).1; omega) _ _ _, h.ne, below_job (hb.trans (h.below.mono hs)) hp _ _ _⟩

set_option maxHeartbeats 4000000 in
set_option maxRecDepth 100000 in
theorem s_JobNext (i d many : Int) (A : Option Addr) (n c : Nat) (L : List ByteArray) (w : World) (hL : Strs w w.heap.size A n L) (hS : Small L) (hn : n ≤ maxLen) (hnc : n ≤ c) :
    Calls Try.prog 28 #[.agg #[.int .i64 i, .slice A n c, .int .i64 d], .int .i64 many] w fun e w' => Own3J w (jNextM (i, L, d) many) e w' := by
  obtain ⟨i0, hi0, hz0, hz1, hz2⟩ := info_parts str_info
  have hU := Try.underlying26
  have HN := hide hn
  unfold maxLen at hn
  have hl := hide hL.1
  have HS := hide hS
  have HA0 := hide ((Blk.new w 28 #[.int .i64 i, .slice A n c, .int .i64 d]).alloc (.cells #[.int .i64 0, .slice none 0 0, .int .i64 0] 28))
  have HB0 := Blk.new (w.alloc (.cells #[.int .i64 i, .slice A n c, .int .i64 d] 28)) 28 #[.int .i64 0, .slice none 0 0, .int .i64 0]
  rw [World.size_alloc] at HB0
  have HB0 := hide HB0
  have hb0 : Below w.heap.size w ((w.alloc (.cells #[.int .i64 i, .slice A n c, .int .i64 d] 28)).alloc (.cells #[.int .i64 0, .slice none 0 0, .int .i64 0] 28)) := ((Below.refl _ _).alloc (Nat.le_refl _) _).alloc (by simp) _
  have hs0 : ((w.alloc (.cells #[.int .i64 i, .slice A n c, .int .i64 d] 28)).alloc (.cells #[.int .i64 0, .slice none 0 0, .int .i64 0] 28)).heap.size = w.heap.size + 1 + 1 := by simp
  have HL0 := hide ((hL.below hb0).more (Nat.le_trans (show w.heap.size ≤ w.heap.size + 1 + 1 by omega) (Nat.le_of_eq hs0.symm)))
  have Hb0 := hide hb0
  have Hs0 := hide hs0
  obtain ⟨⟨a00, a01, a02⟩, _⟩ := HA0.out.cells3
  clear hL hS hb0 hs0 HB0
  have HB0 : Hid (Blk ((w.alloc (.cells #[.int .i64 i, .slice A n c, .int .i64 d] 28)).alloc (.cells #[.int .i64 0, .slice none 0 0, .int .i64 0] 28)) (w.heap.size + 1) 28 #[.int .i64 0, .slice none 0 0, .int .i64 0]) := by
    have h := Blk.new (w.alloc (.cells #[.int .i64 i, .slice A n c, .int .i64 d] 28)) 28 #[.int .i64 0, .slice none 0 0, .int .i64 0]
    rw [World.size_alloc] at h
    exact h
  go_enter Try.func28, Try.ntmps28
  go_wp2_with fail
  refine (s_JobValid i d A n c L _ HL0.out HS.out HN.out).mono ?_
  rintro e w1 ⟨rfl, hb1⟩
  have HA1 := hide (HA0.out.below hb1 (by rw [Hs0.out]; omega))
  have HB1 := hide (HB0.out.below hb1 (by rw [Hs0.out]; omega))
  have Hb1 := hide (Hb0.out.trans (hb1.mono (by rw [Hs0.out]; omega)))
  have hs1 : w.heap.size + 1 + 1 ≤ w1.heap.size := by have h := hb1.size; rw [Hs0.out] at h; exact h
  have HL1 := hide (HL0.out.on' hb1)
  obtain ⟨⟨a10, a11, a12⟩, _⟩ := HA1.out.cells3
  obtain ⟨⟨c10, c11, c12⟩, f10, f11, f12⟩ := HB1.out.cells3
  clear hb1 a00 a01 a02
  cases h1 : jbB (i, L, d)
  · have H : Hid (jNextM (i, L, d) many = none) := jNext_1 h1
    clear h1
    have HBe : Blk ((((w1.alloc (.cells #[] 9)).setCell ⟨w.heap.size + 1, 0, none⟩ (.int .i64 0)).setCell ⟨w.heap.size + 1, 1, none⟩ (.slice none 0 0)).setCell ⟨w.heap.size + 1, 2, none⟩ (.int .i64 0)) (w.heap.size + 1) 28 #[.int .i64 0, .slice none 0 0, .int .i64 0] := (HB1.out.alloc _).job
    obtain ⟨⟨e0, e1, e2⟩, _⟩ := HBe.cells3
    obtain ⟨⟨g0, g1, g2⟩, k0, k1, k2⟩ := (HB1.out.alloc (.cells #[] 9)).cells3
    have hx := own_e w1 9 w.heap.size (by omega)
    have Hx := hide (own_job (p := w.heap.size + 1) hx (by simp [Value.ownBlock]; omega) (.int .i64 0) (.slice none 0 0) (.int .i64 0))
    have Hbe := hide (below_job (p := w.heap.size + 1) (Hb1.out.alloc (by omega) (.cells #[] 9)) (by omega) (.int .i64 0) (.slice none 0 0) (.int .i64 0))
    clear HBe hx
    go_wp2_with fail
    exact bodyPost_ret (v := .tuple #[.slice (some ⟨w1.heap.size, 0, none⟩) 0 0, .agg #[.int .i64 0, .slice none 0 0, .int .i64 0], .bool false]) (by simp [results, Try.results28, go_sem, e0, e1, e2]) rfl (by rw [H.out]; exact ⟨_, _, _, none, 0, 0, rfl, Hx.out, World.ownsRow_nil _ _ _ _, fun b _ e => by simp [Value.ownBlock] at e, Hbe.out⟩)
  have H1 := hide h1
  by_cases hm : many < 0
  · have H : Hid (jNextM (i, L, d) many = none) := jNext_2 hm
    clear h1
    have HBe : Blk ((((w1.alloc (.cells #[] 9)).setCell ⟨w.heap.size + 1, 0, none⟩ (.int .i64 0)).setCell ⟨w.heap.size + 1, 1, none⟩ (.slice none 0 0)).setCell ⟨w.heap.size + 1, 2, none⟩ (.int .i64 0)) (w.heap.size + 1) 28 #[.int .i64 0, .slice none 0 0, .int .i64 0] := (HB1.out.alloc _).job
    obtain ⟨⟨e0, e1, e2⟩, _⟩ := HBe.cells3
    obtain ⟨⟨g0, g1, g2⟩, k0, k1, k2⟩ := (HB1.out.alloc (.cells #[] 9)).cells3
    have hx := own_e w1 9 w.heap.size (by omega)
    have Hx := hide (own_job (p := w.heap.size + 1) hx (by simp [Value.ownBlock]; omega) (.int .i64 0) (.slice none 0 0) (.int .i64 0))
    have Hbe := hide (below_job (p := w.heap.size + 1) (Hb1.out.alloc (by omega) (.cells #[] 9)) (by omega) (.int .i64 0) (.slice none 0 0) (.int .i64 0))
    clear HBe hx
    go_wp2_with fail
    exact bodyPost_ret (v := .tuple #[.slice (some ⟨w1.heap.size, 0, none⟩) 0 0, .agg #[.int .i64 0, .slice none 0 0, .int .i64 0], .bool false]) (by simp [results, Try.results28, go_sem, e0, e1, e2]) rfl (by rw [H.out]; exact ⟨_, _, _, none, 0, 0, rfl, Hx.out, World.ownsRow_nil _ _ _ _, fun b _ e => by simp [Value.ownBlock] at e, Hbe.out⟩)
  have H : Hid (jNextM (i, L, d) many = some (jNms (i, L, d) many, jTo (i, L, d) many)) := jNext_t h1 (by omega)
  have hd := jbB_iff.1 h1
  have hd1 : 0 ≤ d := hd.2.2.1
  have hd2 : d ≤ (n : Int) := by have := hd.2.2.2; have h2 := hl.out; simp only at this; omega
  have hn10 : n ≤ 10 := by have := jb_10 h1; have h2 := hl.out; simp only at this; omega
  rcases jEnd_ways (many := many) hl.out h1 (by omega) with ⟨hw, he⟩ | ⟨hw, he⟩
  · have He := hide he
    have Hz : Hid (((jEnd (i, L, d) many : Nat) : Int) = (n : Int)) := by show _ = _; rw [he]
    clear h1 hd he
    rcases hw with hw | ⟨hw1, hw2⟩
    · have hnd : (n : Int) ≤ d + (n : Int) := by omega
      obtain ⟨E, hE, hEs⟩ := slice_mid hU hi0 hz1 A n c d.toNat n d (n : Int) (by omega) rfl (by omega) (Nat.le_refl _) hnc
      have hM : Hid ((L.take n).drop d.toNat = jNms (i, L, d) many) := by show _ = _; unfold jNms; rw [He.out]
      have RE := (hEs _ _ _ HL1.out)
      rw [hM.out] at RE
      have hbA : Below w1.heap.size w1 (((w1.alloc (.cells #[] 9)).alloc (.cells #[] 9)).drew) := (((Below.refl _ _).alloc (Nat.le_refl _) _).alloc (by simp) _).drew
      have hbB : Below w1.heap.size w1 ((w1.alloc (.cells #[] 9)).drew) := ((Below.refl _ _).alloc (Nat.le_refl _) _).drew
      have o1 := own_e w1 9 w1.heap.size (Nat.le_refl _)
      have o2 := own_e (w1.alloc (.cells #[] 9)) 9 w1.heap.size (by simp)
      rw [World.size_alloc] at o2
      have OA1 : Hid ((((w1.alloc (.cells #[] 9)).alloc (.cells #[] 9)).drew).ownsRow w1.heap.size 9 1 (.slice (some ⟨w1.heap.size, 0, none⟩) 0 0) 0 (([] : List ByteArray).map Value.string)) := (o1.alloc _).drew
      have OA2 : Hid ((((w1.alloc (.cells #[] 9)).alloc (.cells #[] 9)).drew).ownsRow w1.heap.size 9 1 (.slice (some ⟨w1.heap.size + 1, 0, none⟩) 0 0) 0 (([] : List ByteArray).map Value.string)) := o2.drew
      have OB1 : Hid (((w1.alloc (.cells #[] 9)).drew).ownsRow w1.heap.size 9 1 (.slice (some ⟨w1.heap.size, 0, none⟩) 0 0) 0 (([] : List ByteArray).map Value.string)) := o1.drew
      have REA := hide (Rd.of_strs (RE.below hbA))
      have REB := hide (Rd.of_strs (RE.below hbB))
      have HbA := hide hbA
      have HbB := hide hbB
      have hA1 : ∀ W : World, Below w1.heap.size w1 W → W.cell? ⟨w.heap.size, 0, none⟩ = some (.int .i64 i) ∧ W.cell? ⟨w.heap.size, 1, none⟩ = some (.slice A n c) ∧ W.cell? ⟨w.heap.size, 2, none⟩ = some (.int .i64 d) := fun W h => (HA1.out.below h (by omega)).cells3.1
      have HAc := hide hA1
      have HN0 := hide (show n - d.toNat ≤ 10 ∧ n ≤ 10 by omega)
      have hN1 : 0 + (n - d.toNat) ≤ maxLen ∧ (0 + (n - d.toNat)) * 16 ≤ 140737488355328 := by unfold maxLen; omega
      have hN2 : 0 + n ≤ maxLen ∧ (0 + n) * 16 ≤ 140737488355328 := by unfold maxLen; omega
      have HN1 := hide hN1
      have HN2 := hide hN2
      clear hEs RE hbA hbB o1 o2 hA1 hN1 hN2
      go_wp2_with fail
      go_region_held3 (fun w' => w'.cell? ⟨w.heap.size, 0, none⟩ = some (.int .i64 i) ∧ w'.cell? ⟨w.heap.size, 1, none⟩ = some (.slice A n c) ∧ w'.cell? ⟨w.heap.size, 2, none⟩ = some (.int .i64 d)) (first | exact HA9.out | exact HA7.out | go_keep) (first
        | (refine step_append_rd _ rfl (.tmp 29) (.tmp 35) _ rfl w1.heap.size 9 i0 _ 1 16 hU hi0 hz0 hz1 hz2 rfl (by omega) (.slice (some ⟨w1.heap.size, 0, none⟩) 0 0) 0 (([] : List ByteArray).map Value.string) rfl (by exact OA1.out) w1.heap.size E (n - d.toNat) (c - d.toNat) ((jNms (i, L, d) many).map Value.string) rfl (by exact REA.out) (one_strs _) HN1.out.1 HN1.out.2 HbA.out.size ?_
           intro v7 w7 own7 gr7 at7
           have H7 := hide (aft_of HbA.out OA2.out OA1.out (by omega) own7 gr7 at7)
           have HA7 := hide (HAc.out _ H7.out.below)
           have RL7 := hide (Rd.of_strs (HL1.out.below H7.out.below))
           clear own7 gr7 at7)
        | (refine step_append_rd _ rfl (.tmp 29) (.tmp 35) _ rfl w1.heap.size 9 i0 _ 1 16 hU hi0 hz0 hz1 hz2 rfl (by omega) (.slice (some ⟨w1.heap.size + 1, 0, none⟩) 0 0) 0 (([] : List ByteArray).map Value.string) rfl (by exact OA2.out) w1.heap.size E (n - d.toNat) (c - d.toNat) ((jNms (i, L, d) many).map Value.string) rfl (by exact REA.out) (one_strs _) HN1.out.1 HN1.out.2 HbA.out.size ?_
           intro v7 w7 own7 gr7 at7
           have H7 := hide (aft_of HbA.out OA1.out OA2.out (by omega) own7 gr7 at7)
           have HA7 := hide (HAc.out _ H7.out.below)
           have RL7 := hide (Rd.of_strs (HL1.out.below H7.out.below))
           clear own7 gr7 at7)
        | (refine step_append_rd _ rfl (.tmp 29) (.tmp 35) _ rfl w1.heap.size 9 i0 _ 1 16 hU hi0 hz0 hz1 hz2 rfl (by omega) (.slice (some ⟨w1.heap.size, 0, none⟩) 0 0) 0 (([] : List ByteArray).map Value.string) rfl (by exact OB1.out) w1.heap.size E (n - d.toNat) (c - d.toNat) ((jNms (i, L, d) many).map Value.string) rfl (by exact REB.out) (one_strs _) HN1.out.1 HN1.out.2 HbB.out.size ?_
           intro v7 w7 own7 gr7 at7
           have hb7 : Below w1.heap.size w1 w7 := Below.own HbB.out gr7 OB1.out (Nat.le_refl _) HbB.out.size
           have own7' : w7.ownsRow w1.heap.size 9 1 v7 (n - d.toNat) ((jNms (i, L, d) many).map Value.string) := by simpa using own7
           have HA7 := hide (HAc.out _ hb7)
           have H7 : Hid (Aft w1 (w7.alloc (.cells #[] 9)) v7 w7.heap.size (n - d.toNat) (jNms (i, L, d) many)) := ⟨own7'.alloc _, own_e w7 9 w1.heap.size hb7.size, fun e => by have := (own7'.lt _ e).2; omega, hb7.alloc hb7.size _⟩
           have RL7 := hide (Rd.of_strs (HL1.out.below H7.out.below))
           clear own7 gr7 at7 hb7 own7')
        | (refine step_append_rd _ rfl (.tmp 39) (.tmp 41) _ rfl w1.heap.size 9 i0 _ 1 16 hU hi0 hz0 hz1 hz2 rfl (by omega) _ 0 (([] : List ByteArray).map Value.string) rfl (by exact H7.out.row) w1.heap.size A n c (L.map Value.string) rfl (by exact RL7.out) (one_strs _) HN2.out.1 HN2.out.2 (by exact H7.out.below.size) ?_
           intro v9 w9 own9 gr9 at9
           have H9 := hide (fin_of H7.out own9 gr9 at9)
           have HA9 := hide (HAc.out _ H9.out.below)
           obtain ⟨A9, c9, e9⟩ := own_slice H9.out.two
           subst e9
           have HB9 := hide (HB1.out.below H9.out.below (by omega))
           obtain ⟨⟨p90, p91, p92⟩, f90, f91, f92⟩ := HB9.out.cells3
           clear own9 gr9 at9)
        | fail)
      all_goals
        obtain ⟨A7, c7, e7⟩ := own_slice H9.out.own
        subst e7
        have HBe := HB9.out.job (a' := .int .i64 i) (b' := .slice A9 n c9) (d' := .int .i64 (n : Int))
        obtain ⟨⟨e0, e1, e2⟩, _⟩ := HBe.cells3
        have HF := hide (jnext_end (p := w.heap.size + 1) (i := i) (z := (n : Int)) H9.out (by omega) (by omega) Hb1.out (by omega))
        clear HBe
        go_wp2_with fail
        exact bodyPost_ret (v := .tuple #[.slice A7 (n - d.toNat) c7, .agg #[.int .i64 i, .slice A9 n c9, .int .i64 (n : Int)], .bool true]) (by simp [results, Try.results28, go_sem, e0, e1, e2]) rfl (by rw [H.out]; unfold jTo; rw [Hz.out]; exact HF.out)
    · have hnd : (n : Int) ≤ d + many := by omega
      obtain ⟨E, hE, hEs⟩ := slice_mid hU hi0 hz1 A n c d.toNat n d (n : Int) (by omega) rfl (by omega) (Nat.le_refl _) hnc
      have hM : Hid ((L.take n).drop d.toNat = jNms (i, L, d) many) := by show _ = _; unfold jNms; rw [He.out]
      have RE := (hEs _ _ _ HL1.out)
      rw [hM.out] at RE
      have hbA : Below w1.heap.size w1 (((w1.alloc (.cells #[] 9)).alloc (.cells #[] 9)).drew) := (((Below.refl _ _).alloc (Nat.le_refl _) _).alloc (by simp) _).drew
      have hbB : Below w1.heap.size w1 ((w1.alloc (.cells #[] 9)).drew) := ((Below.refl _ _).alloc (Nat.le_refl _) _).drew
      have o1 := own_e w1 9 w1.heap.size (Nat.le_refl _)
      have o2 := own_e (w1.alloc (.cells #[] 9)) 9 w1.heap.size (by simp)
      rw [World.size_alloc] at o2
      have OA1 : Hid ((((w1.alloc (.cells #[] 9)).alloc (.cells #[] 9)).drew).ownsRow w1.heap.size 9 1 (.slice (some ⟨w1.heap.size, 0, none⟩) 0 0) 0 (([] : List ByteArray).map Value.string)) := (o1.alloc _).drew
      have OA2 : Hid ((((w1.alloc (.cells #[] 9)).alloc (.cells #[] 9)).drew).ownsRow w1.heap.size 9 1 (.slice (some ⟨w1.heap.size + 1, 0, none⟩) 0 0) 0 (([] : List ByteArray).map Value.string)) := o2.drew
      have OB1 : Hid (((w1.alloc (.cells #[] 9)).drew).ownsRow w1.heap.size 9 1 (.slice (some ⟨w1.heap.size, 0, none⟩) 0 0) 0 (([] : List ByteArray).map Value.string)) := o1.drew
      have REA := hide (Rd.of_strs (RE.below hbA))
      have REB := hide (Rd.of_strs (RE.below hbB))
      have HbA := hide hbA
      have HbB := hide hbB
      have hA1 : ∀ W : World, Below w1.heap.size w1 W → W.cell? ⟨w.heap.size, 0, none⟩ = some (.int .i64 i) ∧ W.cell? ⟨w.heap.size, 1, none⟩ = some (.slice A n c) ∧ W.cell? ⟨w.heap.size, 2, none⟩ = some (.int .i64 d) := fun W h => (HA1.out.below h (by omega)).cells3.1
      have HAc := hide hA1
      have HN0 := hide (show n - d.toNat ≤ 10 ∧ n ≤ 10 by omega)
      have hN1 : 0 + (n - d.toNat) ≤ maxLen ∧ (0 + (n - d.toNat)) * 16 ≤ 140737488355328 := by unfold maxLen; omega
      have hN2 : 0 + n ≤ maxLen ∧ (0 + n) * 16 ≤ 140737488355328 := by unfold maxLen; omega
      have HN1 := hide hN1
      have HN2 := hide hN2
      clear hEs RE hbA hbB o1 o2 hA1 hN1 hN2
      go_wp2_with fail
      go_region_held3 (fun w' => w'.cell? ⟨w.heap.size, 0, none⟩ = some (.int .i64 i) ∧ w'.cell? ⟨w.heap.size, 1, none⟩ = some (.slice A n c) ∧ w'.cell? ⟨w.heap.size, 2, none⟩ = some (.int .i64 d)) (first | exact HA9.out | exact HA7.out | go_keep) (first
        | (refine step_append_rd _ rfl (.tmp 29) (.tmp 35) _ rfl w1.heap.size 9 i0 _ 1 16 hU hi0 hz0 hz1 hz2 rfl (by omega) (.slice (some ⟨w1.heap.size, 0, none⟩) 0 0) 0 (([] : List ByteArray).map Value.string) rfl (by exact OA1.out) w1.heap.size E (n - d.toNat) (c - d.toNat) ((jNms (i, L, d) many).map Value.string) rfl (by exact REA.out) (one_strs _) HN1.out.1 HN1.out.2 HbA.out.size ?_
           intro v7 w7 own7 gr7 at7
           have H7 := hide (aft_of HbA.out OA2.out OA1.out (by omega) own7 gr7 at7)
           have HA7 := hide (HAc.out _ H7.out.below)
           have RL7 := hide (Rd.of_strs (HL1.out.below H7.out.below))
           clear own7 gr7 at7)
        | (refine step_append_rd _ rfl (.tmp 29) (.tmp 35) _ rfl w1.heap.size 9 i0 _ 1 16 hU hi0 hz0 hz1 hz2 rfl (by omega) (.slice (some ⟨w1.heap.size + 1, 0, none⟩) 0 0) 0 (([] : List ByteArray).map Value.string) rfl (by exact OA2.out) w1.heap.size E (n - d.toNat) (c - d.toNat) ((jNms (i, L, d) many).map Value.string) rfl (by exact REA.out) (one_strs _) HN1.out.1 HN1.out.2 HbA.out.size ?_
           intro v7 w7 own7 gr7 at7
           have H7 := hide (aft_of HbA.out OA1.out OA2.out (by omega) own7 gr7 at7)
           have HA7 := hide (HAc.out _ H7.out.below)
           have RL7 := hide (Rd.of_strs (HL1.out.below H7.out.below))
           clear own7 gr7 at7)
        | (refine step_append_rd _ rfl (.tmp 29) (.tmp 35) _ rfl w1.heap.size 9 i0 _ 1 16 hU hi0 hz0 hz1 hz2 rfl (by omega) (.slice (some ⟨w1.heap.size, 0, none⟩) 0 0) 0 (([] : List ByteArray).map Value.string) rfl (by exact OB1.out) w1.heap.size E (n - d.toNat) (c - d.toNat) ((jNms (i, L, d) many).map Value.string) rfl (by exact REB.out) (one_strs _) HN1.out.1 HN1.out.2 HbB.out.size ?_
           intro v7 w7 own7 gr7 at7
           have hb7 : Below w1.heap.size w1 w7 := Below.own HbB.out gr7 OB1.out (Nat.le_refl _) HbB.out.size
           have own7' : w7.ownsRow w1.heap.size 9 1 v7 (n - d.toNat) ((jNms (i, L, d) many).map Value.string) := by simpa using own7
           have HA7 := hide (HAc.out _ hb7)
           have H7 : Hid (Aft w1 (w7.alloc (.cells #[] 9)) v7 w7.heap.size (n - d.toNat) (jNms (i, L, d) many)) := ⟨own7'.alloc _, own_e w7 9 w1.heap.size hb7.size, fun e => by have := (own7'.lt _ e).2; omega, hb7.alloc hb7.size _⟩
           have RL7 := hide (Rd.of_strs (HL1.out.below H7.out.below))
           clear own7 gr7 at7 hb7 own7')
        | (refine step_append_rd _ rfl (.tmp 39) (.tmp 41) _ rfl w1.heap.size 9 i0 _ 1 16 hU hi0 hz0 hz1 hz2 rfl (by omega) _ 0 (([] : List ByteArray).map Value.string) rfl (by exact H7.out.row) w1.heap.size A n c (L.map Value.string) rfl (by exact RL7.out) (one_strs _) HN2.out.1 HN2.out.2 (by exact H7.out.below.size) ?_
           intro v9 w9 own9 gr9 at9
           have H9 := hide (fin_of H7.out own9 gr9 at9)
           have HA9 := hide (HAc.out _ H9.out.below)
           obtain ⟨A9, c9, e9⟩ := own_slice H9.out.two
           subst e9
           have HB9 := hide (HB1.out.below H9.out.below (by omega))
           obtain ⟨⟨p90, p91, p92⟩, f90, f91, f92⟩ := HB9.out.cells3
           clear own9 gr9 at9)
        | fail)
      all_goals
        obtain ⟨A7, c7, e7⟩ := own_slice H9.out.own
        subst e7
        have HBe := HB9.out.job (a' := .int .i64 i) (b' := .slice A9 n c9) (d' := .int .i64 (n : Int))
        obtain ⟨⟨e0, e1, e2⟩, _⟩ := HBe.cells3
        have HF := hide (jnext_end (p := w.heap.size + 1) (i := i) (z := (n : Int)) H9.out (by omega) (by omega) Hb1.out (by omega))
        clear HBe
        go_wp2_with fail
        exact bodyPost_ret (v := .tuple #[.slice A7 (n - d.toNat) c7, .agg #[.int .i64 i, .slice A9 n c9, .int .i64 (n : Int)], .bool true]) (by simp [results, Try.results28, go_sem, e0, e1, e2]) rfl (by rw [H.out]; unfold jTo; rw [Hz.out]; exact HF.out)
  · obtain ⟨e, hee⟩ : ∃ e, jEnd (i, L, d) many = e := ⟨_, rfl⟩
    have He := hide hee
    have Hz : Hid (((jEnd (i, L, d) many : Nat) : Int) = d + many) := he
    rw [hee] at he
    have hen : e ≤ n := by omega
    have hde1 : d + many ≤ (e : Int) := by omega
    have hde2 : (e : Int) ≤ d + many := by omega
    obtain ⟨hw1, hw2⟩ := hw
    clear h1 hd hee he
    obtain ⟨E, hE, hEs⟩ := slice_mid hU hi0 hz1 A n c d.toNat e d (d + many) (by omega) (by omega) (by omega) hen hnc
    have hM : Hid ((L.take e).drop d.toNat = jNms (i, L, d) many) := by show _ = _; unfold jNms; rw [He.out]
    have RE := (hEs _ _ _ HL1.out)
    rw [hM.out] at RE
    have hbA : Below w1.heap.size w1 (((w1.alloc (.cells #[] 9)).alloc (.cells #[] 9)).drew) := (((Below.refl _ _).alloc (Nat.le_refl _) _).alloc (by simp) _).drew
    have hbB : Below w1.heap.size w1 ((w1.alloc (.cells #[] 9)).drew) := ((Below.refl _ _).alloc (Nat.le_refl _) _).drew
    have o1 := own_e w1 9 w1.heap.size (Nat.le_refl _)
    have o2 := own_e (w1.alloc (.cells #[] 9)) 9 w1.heap.size (by simp)
    rw [World.size_alloc] at o2
    have OA1 : Hid ((((w1.alloc (.cells #[] 9)).alloc (.cells #[] 9)).drew).ownsRow w1.heap.size 9 1 (.slice (some ⟨w1.heap.size, 0, none⟩) 0 0) 0 (([] : List ByteArray).map Value.string)) := (o1.alloc _).drew
    have OA2 : Hid ((((w1.alloc (.cells #[] 9)).alloc (.cells #[] 9)).drew).ownsRow w1.heap.size 9 1 (.slice (some ⟨w1.heap.size + 1, 0, none⟩) 0 0) 0 (([] : List ByteArray).map Value.string)) := o2.drew
    have OB1 : Hid (((w1.alloc (.cells #[] 9)).drew).ownsRow w1.heap.size 9 1 (.slice (some ⟨w1.heap.size, 0, none⟩) 0 0) 0 (([] : List ByteArray).map Value.string)) := o1.drew
    have REA := hide (Rd.of_strs (RE.below hbA))
    have REB := hide (Rd.of_strs (RE.below hbB))
    have HbA := hide hbA
    have HbB := hide hbB
    have hA1 : ∀ W : World, Below w1.heap.size w1 W → W.cell? ⟨w.heap.size, 0, none⟩ = some (.int .i64 i) ∧ W.cell? ⟨w.heap.size, 1, none⟩ = some (.slice A n c) ∧ W.cell? ⟨w.heap.size, 2, none⟩ = some (.int .i64 d) := fun W h => (HA1.out.below h (by omega)).cells3.1
    have HAc := hide hA1
    have HN0 := hide (show e - d.toNat ≤ 10 ∧ n ≤ 10 by omega)
    have hN1 : 0 + (e - d.toNat) ≤ maxLen ∧ (0 + (e - d.toNat)) * 16 ≤ 140737488355328 := by unfold maxLen; omega
    have hN2 : 0 + n ≤ maxLen ∧ (0 + n) * 16 ≤ 140737488355328 := by unfold maxLen; omega
    have HN1 := hide hN1
    have HN2 := hide hN2
    clear hEs RE hbA hbB o1 o2 hA1 hN1 hN2
    go_wp2_with fail
    go_region_held3 (fun w' => w'.cell? ⟨w.heap.size, 0, none⟩ = some (.int .i64 i) ∧ w'.cell? ⟨w.heap.size, 1, none⟩ = some (.slice A n c) ∧ w'.cell? ⟨w.heap.size, 2, none⟩ = some (.int .i64 d)) (first | exact HA9.out | exact HA7.out | go_keep) (first
      | (refine step_append_rd _ rfl (.tmp 29) (.tmp 35) _ rfl w1.heap.size 9 i0 _ 1 16 hU hi0 hz0 hz1 hz2 rfl (by omega) (.slice (some ⟨w1.heap.size, 0, none⟩) 0 0) 0 (([] : List ByteArray).map Value.string) rfl (by exact OA1.out) w1.heap.size E (e - d.toNat) (c - d.toNat) ((jNms (i, L, d) many).map Value.string) rfl (by exact REA.out) (one_strs _) HN1.out.1 HN1.out.2 HbA.out.size ?_
         intro v7 w7 own7 gr7 at7
         have H7 := hide (aft_of HbA.out OA2.out OA1.out (by omega) own7 gr7 at7)
         have HA7 := hide (HAc.out _ H7.out.below)
         have RL7 := hide (Rd.of_strs (HL1.out.below H7.out.below))
         clear own7 gr7 at7)
      | (refine step_append_rd _ rfl (.tmp 29) (.tmp 35) _ rfl w1.heap.size 9 i0 _ 1 16 hU hi0 hz0 hz1 hz2 rfl (by omega) (.slice (some ⟨w1.heap.size + 1, 0, none⟩) 0 0) 0 (([] : List ByteArray).map Value.string) rfl (by exact OA2.out) w1.heap.size E (e - d.toNat) (c - d.toNat) ((jNms (i, L, d) many).map Value.string) rfl (by exact REA.out) (one_strs _) HN1.out.1 HN1.out.2 HbA.out.size ?_
         intro v7 w7 own7 gr7 at7
         have H7 := hide (aft_of HbA.out OA1.out OA2.out (by omega) own7 gr7 at7)
         have HA7 := hide (HAc.out _ H7.out.below)
         have RL7 := hide (Rd.of_strs (HL1.out.below H7.out.below))
         clear own7 gr7 at7)
      | (refine step_append_rd _ rfl (.tmp 29) (.tmp 35) _ rfl w1.heap.size 9 i0 _ 1 16 hU hi0 hz0 hz1 hz2 rfl (by omega) (.slice (some ⟨w1.heap.size, 0, none⟩) 0 0) 0 (([] : List ByteArray).map Value.string) rfl (by exact OB1.out) w1.heap.size E (e - d.toNat) (c - d.toNat) ((jNms (i, L, d) many).map Value.string) rfl (by exact REB.out) (one_strs _) HN1.out.1 HN1.out.2 HbB.out.size ?_
         intro v7 w7 own7 gr7 at7
         have hb7 : Below w1.heap.size w1 w7 := Below.own HbB.out gr7 OB1.out (Nat.le_refl _) HbB.out.size
         have own7' : w7.ownsRow w1.heap.size 9 1 v7 (e - d.toNat) ((jNms (i, L, d) many).map Value.string) := by simpa using own7
         have HA7 := hide (HAc.out _ hb7)
         have H7 : Hid (Aft w1 (w7.alloc (.cells #[] 9)) v7 w7.heap.size (e - d.toNat) (jNms (i, L, d) many)) := ⟨own7'.alloc _, own_e w7 9 w1.heap.size hb7.size, fun e => by have := (own7'.lt _ e).2; omega, hb7.alloc hb7.size _⟩
         have RL7 := hide (Rd.of_strs (HL1.out.below H7.out.below))
         clear own7 gr7 at7 hb7 own7')
      | (refine step_append_rd _ rfl (.tmp 39) (.tmp 41) _ rfl w1.heap.size 9 i0 _ 1 16 hU hi0 hz0 hz1 hz2 rfl (by omega) _ 0 (([] : List ByteArray).map Value.string) rfl (by exact H7.out.row) w1.heap.size A n c (L.map Value.string) rfl (by exact RL7.out) (one_strs _) HN2.out.1 HN2.out.2 (by exact H7.out.below.size) ?_
         intro v9 w9 own9 gr9 at9
         have H9 := hide (fin_of H7.out own9 gr9 at9)
         have HA9 := hide (HAc.out _ H9.out.below)
         obtain ⟨A9, c9, e9⟩ := own_slice H9.out.two
         subst e9
         have HB9 := hide (HB1.out.below H9.out.below (by omega))
         obtain ⟨⟨p90, p91, p92⟩, f90, f91, f92⟩ := HB9.out.cells3
         clear own9 gr9 at9)
      | fail)
    all_goals
      obtain ⟨A7, c7, e7⟩ := own_slice H9.out.own
      subst e7
      have HBe := HB9.out.job (a' := .int .i64 i) (b' := .slice A9 n c9) (d' := .int .i64 (d + many))
      obtain ⟨⟨e0, e1, e2⟩, _⟩ := HBe.cells3
      have HF := hide (jnext_end (p := w.heap.size + 1) (i := i) (z := (d + many)) H9.out (by omega) (by omega) Hb1.out (by omega))
      clear HBe
      go_wp2_with fail
      exact bodyPost_ret (v := .tuple #[.slice A7 (e - d.toNat) c7, .agg #[.int .i64 i, .slice A9 n c9, .int .i64 (d + many)], .bool true]) (by simp [results, Try.results28, go_sem, e0, e1, e2]) rfl (by rw [H.out]; unfold jTo; rw [Hz.out]; exact HF.out)
end Go.Proofs.Ytimpmlmkhjeajaa
