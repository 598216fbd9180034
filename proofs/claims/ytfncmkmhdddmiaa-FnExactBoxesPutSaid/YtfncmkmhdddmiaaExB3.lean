/- Words of the exact laws of boxes: marks. -/
import Derived.Test.YtfncmkmhdddmiaaExB2
set_option linter.unusedVariables false
set_option linter.unusedSimpArgs false
namespace Go.Proofs.Ytfncmkmhdddmiaa
open Go.RowKit

theorem wcells_set0 : ∀ {X : List BxV} {k : Nat} {a : BxV} (s : ByteArray), X[k]? = some a → (wcells X).set (k * 2) (.string s) = wcells (X.set k (s, a.2))
  | [], k, a, v, h => by simp at h
  | b :: X, 0, a, v, h => by simp at h; subst h; rw [wcells_cons, List.set_cons_zero, wcells_cons]; rfl
  | b :: X, k + 1, a, v, h => by
    have h' : X[k]? = some a := by simpa using h
    rw [wcells_cons, List.set_cons_succ, wcells_cons, ← wcells_set0 v h', show (k + 1) * 2 = k * 2 + 1 + 1 by omega]
    rfl
structure Mid (base top : Nat) (w w' : World) : Prop where
  os : w'.os = w.os
  tape : w'.tape = w.tape
  output : w'.output = w.output
  size : w.heap.size ≤ w'.heap.size
  block : ∀ k, k < w.heap.size → (k < base ∨ top ≤ k) → w'.heap[k]? = w.heap[k]?
theorem Mid.refl (base top : Nat) (w : World) : Mid base top w w := ⟨rfl, rfl, rfl, Nat.le_refl _, fun _ _ _ => rfl⟩
theorem Mid.trans {base top : Nat} {a b c : World} (h : Mid base top a b) (k : Mid base top b c) : Mid base top a c :=
  ⟨k.os.trans h.os, k.tape.trans h.tape, k.output.trans h.output, Nat.le_trans h.size k.size, fun i hi hn => (k.block i (Nat.lt_of_lt_of_le hi h.size) hn).trans (h.block i hi hn)⟩
theorem Mid.of_below {base top : Nat} {a b : World} (h : Below a.heap.size a b) : Mid base top a b := ⟨h.os, h.tape, h.output, h.size, fun i hi _ => h.block i hi⟩
theorem Mid.of_grown {base top : Nat} {a b : World} {row : Option Nat} (h : a.grownBy b row) (hr : ∀ g, row = some g → base ≤ g ∧ g < top) : Mid base top a b :=
  ⟨h.os, h.tape, h.output, h.size, fun i hi hn => h.block i hi (fun e => by have := hr i e.symm; omega)⟩
theorem Mid.below {base top B : Nat} {w a b : World} (h : Mid base top a b) (hw : Below B w a) (hB : B ≤ base) (hs : B ≤ a.heap.size) : Below B w b :=
  hw.trans ⟨h.os, h.tape, h.output, h.size, fun k hk => h.block k (by omega) (.inl (by omega))⟩
theorem Mid.nest {base top base' : Nat} {a b : World} {A : Option Addr} {n c : Nat} {Y : List BxV} (h : Mid base top a b) (hY : NestB base' a A n c Y) (ht : top ≤ base') : NestB base' b A n c Y :=
  hY.kept h.os h.tape h.output h.size fun k hk => h.block k (hY.lt hk).2 (.inr (by have := (hY.lt hk).1; omega))
theorem Mid.row {base top base' : Nat} {a b : World} {e : TypeId} {size m : Nat} {v : Value} {xs : List Value} (h : Mid base top a b) (ho : a.ownsRow base' e size v m xs) (ht : top ≤ base') : b.ownsRow base' e size v m xs := by
  refine ⟨ho.1, ?_⟩
  rcases ho.2 with h1 | ⟨g, cap, cur, e1, e2, e3, e4⟩
  · exact .inl h1
  · exact .inr ⟨g, cap, cur, e1, e2, by rw [h.block g ((ho.lt g (by rw [e1]; rfl)).2) (.inr (by omega))]; exact e3, e4⟩


def markB : Nat → List Nat → List Bx
  | _, [] => []
  | k, m :: ns => (mkT k, marksI (k + 1) m) :: markB (k + 1 + m) ns
def cnt (ns : List Nat) : Nat := ns.length + ns.sum
theorem cnt_nil : cnt [] = 0 := rfl
theorem cnt_cons (m : Nat) (ns : List Nat) : cnt (m :: ns) = 1 + m + cnt ns := by unfold cnt; simp; omega
theorem cnt_take : ∀ {ns : List Nat} {j m : Nat}, ns[j]? = some m → cnt (ns.take (j + 1)) = cnt (ns.take j) + 1 + m
  | [], j, m, h => by simp at h
  | q :: ns, 0, m, h => by simp at h; subst h; simp [cnt]
  | q :: ns, j + 1, m, h => by
    have h' : ns[j]? = some m := by simpa using h
    rw [List.take_succ_cons, List.take_succ_cons, cnt_cons, cnt_cons, cnt_take h']; omega
theorem cnt_le {ns : List Nat} {j m : Nat} (h : ns[j]? = some m) : cnt (ns.take j) + 1 + m ≤ cnt ns := by
  rw [← cnt_take h]
  have e : cnt ns = cnt (ns.take (j + 1)) + cnt (ns.drop (j + 1)) := by
    conv => lhs; rw [← List.take_append_drop (j + 1) ns]
    unfold cnt; rw [List.length_append, List.sum_append]; omega
  omega
theorem markB_len : ∀ (k : Nat) (ns : List Nat), (markB k ns).length = ns.length
  | _, [] => rfl
  | k, m :: ns => by simp [markB, markB_len]
theorem markB_at : ∀ {k j m : Nat} {ns : List Nat}, ns[j]? = some m → (markB k ns)[j]? = some (mkT (k + cnt (ns.take j)), marksI (k + cnt (ns.take j) + 1) m)
  | k, j, m, [], h => by simp at h
  | k, 0, m, q :: ns, h => by simp at h; subst h; simp [markB, cnt]
  | k, j + 1, m, q :: ns, h => by
    have h' : ns[j]? = some m := by simpa using h
    have e : k + 1 + q + cnt (ns.take j) = k + cnt ((q :: ns).take (j + 1)) := by rw [List.take_succ_cons, cnt_cons]; omega
    have := markB_at (k := k + 1 + q) h'
    rw [e] at this
    simpa [markB] using this
theorem own_slice' {w : World} {base : Nat} {e : TypeId} {size m : Nat} {v : Value} {xs : List Value} (h : w.ownsRow base e size v m xs) : ∃ A c, v = .slice A m c := by
  rcases h.2 with ⟨rfl, rfl⟩ | ⟨g, cap, cur, rfl, _⟩
  · exact ⟨_, _, rfl⟩
  · exact ⟨_, _, rfl⟩
/-- How many followers each has. -/
def lens (Y : List BxV) : List Nat := Y.map fun y => y.2.1.length
def vals (Y : List BxV) : List Value := Y.map fun y => y.2.2
theorem set_same' {α : Type} {L : List α} {j : Nat} {x : α} (h : L[j]? = some x) : L.set j x = L := by
  obtain ⟨hj, e⟩ := List.getElem?_eq_some_iff.1 h
  subst e
  exact List.set_getElem_self hj
theorem lens_set {Y : List BxV} {j : Nat} {y z : BxV} (h : Y[j]? = some y) (e : z.2.1.length = y.2.1.length) : lens (Y.set j z) = lens Y := by
  unfold lens
  rw [List.map_set]
  have h1 : (Y.map fun y => y.2.1.length)[j]? = some z.2.1.length := by rw [List.getElem?_map, h, e]; rfl
  exact set_same' h1
theorem vals_set {Y : List BxV} {j : Nat} {y z : BxV} (h : Y[j]? = some y) (e : z.2.2 = y.2.2) : vals (Y.set j z) = vals Y := by
  unfold vals
  rw [List.map_set]
  have h1 : (Y.map fun y => y.2.2)[j]? = some z.2.2 := by rw [List.getElem?_map, h, e]; rfl
  exact set_same' h1
theorem wblk_vals {v : Value} {Y Z : List BxV} (h : vals Y = vals Z) {b : Nat} (hb : WBlk v Y b) : WBlk v Z b := by
  rcases hb with hb | ⟨y, hy, hb⟩
  · exact .inl hb
  · have h1 : y.2.2 ∈ vals Z := by rw [← h]; exact List.mem_map_of_mem hy
    obtain ⟨z, hz, e⟩ := List.mem_map.1 h1
    exact .inr ⟨z, hz, by rw [e]; exact hb⟩
theorem two_vals {Y Z : List BxV} (h : vals Y = vals Z) (ht : Y.Pairwise fun y z => ∀ b, y.2.2.ownBlock = some b → z.2.2.ownBlock ≠ some b) : Z.Pairwise fun y z => ∀ b, y.2.2.ownBlock = some b → z.2.2.ownBlock ≠ some b := by
  have h1 : (vals Y).Pairwise fun u v => ∀ b, u.ownBlock = some b → v.ownBlock ≠ some b := by unfold vals; rw [List.pairwise_map]; exact ht
  rw [h] at h1
  unfold vals at h1
  rwa [List.pairwise_map] at h1
section
variable {base : Nat} {w w' : World} {n c b : Nat} {Y : List BxV}
theorem NestB.name {j : Nat} {y : BxV} (h : NestB base w (some ⟨b, 0, none⟩) n c Y) (hy : Y[j]? = some y) (t : ByteArray) : NestB base (w.setCell ⟨b, j * 2, none⟩ (.string t)) (some ⟨b, 0, none⟩) n c (Y.set j (t, y.2)) := by
  have s1 := h.row.stored (j * 2) (.string t)
  rw [wcells_set0 t hy] at s1
  have hv := vals_set (z := (t, y.2)) hy rfl
  refine ⟨s1.1, fun z hz => ?_, fun z hz d hd => ?_, two_vals hv.symm h.two⟩
  · rcases List.mem_or_eq_of_mem_set hz with h1 | rfl
    · exact (h.ids z h1).kept (grown_set _ _ _) (.inr (fun e => h.far z h1 _ e rfl))
    · exact (h.ids y (List.mem_of_getElem? hy)).kept (grown_set _ _ _) (.inr (fun e => h.far y (List.mem_of_getElem? hy) _ e rfl))
  · rcases List.mem_or_eq_of_mem_set hz with h1 | rfl
    · exact h.far z h1 d hd
    · exact h.far y (List.mem_of_getElem? hy) d hd
theorem wcells_setL : ∀ {X : List BxV} {k : Nat} {a : BxV} (G : List Int), X[k]? = some a → wcells X = wcells (X.set k (a.1, G, a.2.2))
  | [], k, a, v, h => by simp at h
  | b :: X, 0, a, v, h => by simp at h; subst h; rw [wcells_cons, List.set_cons_zero, wcells_cons]
  | b :: X, k + 1, a, v, h => by
    have h' : X[k]? = some a := by simpa using h
    rw [wcells_cons, List.set_cons_succ, wcells_cons, ← wcells_setL v h']
theorem NestB.nums {A : Option Addr} {j : Nat} {y : BxV} {G : List Int} (h : NestB base w A n c Y) (hy : Y[j]? = some y) (hG : w'.ownsRow base 3 1 y.2.2 G.length (G.map (Value.int .i64))) (hg : w.grownBy w' y.2.2.ownBlock) : NestB base w' A n c (Y.set j (y.1, G, y.2.2)) := by
  have hm := List.mem_of_getElem? hy
  obtain ⟨hj, ej⟩ := List.getElem?_eq_some_iff.1 hy
  have hv := vals_set (z := (y.1, G, y.2.2)) hy rfl
  refine ⟨?_, fun z hz => ?_, fun z hz d hd => ?_, two_vals hv.symm h.two⟩
  · rw [← wcells_setL G hy]
    refine h.row.kept hg ?_
    cases ho : (Value.slice A n c).ownBlock with
    | none => exact .inl rfl
    | some q => exact .inr (fun e => h.far y hm q e.symm ho)
  · obtain ⟨i, hi, ei⟩ := List.mem_iff_getElem.1 hz
    rw [List.length_set] at hi
    by_cases e : i = j
    · subst e
      rw [List.getElem_set_self] at ei
      rw [← ei]; exact hG
    · rw [List.getElem_set_ne (by omega)] at ei
      subst ei
      refine (h.ids _ (List.getElem_mem hi)).kept hg ?_
      cases ho : (Y[i]).2.2.ownBlock with
      | none => exact .inl rfl
      | some q =>
        refine .inr (fun e2 => ?_)
        have tw := List.pairwise_iff_getElem.1 h.two
        rcases Nat.lt_or_gt_of_ne e with hl | hl
        · exact tw i j hi hj hl q ho (by rw [ej]; exact e2.symm)
        · exact tw j i hj hi hl q (by rw [ej]; exact e2.symm) ho
  · rcases List.mem_or_eq_of_mem_set hz with h1 | rfl
    · exact h.far z h1 d hd
    · exact h.far y hm d hd
theorem bxV_set {Y : List BxV} {j : Nat} {z : BxV} (i : Nat) : (bxV (Y.set j z))[i]? = if i = j ∧ j < Y.length then some (z.1, z.2.1) else (bxV Y)[i]? := by
  unfold bxV
  rw [List.map_set, List.getElem?_set]
  by_cases e : j = i
  · subst e
    rw [if_pos rfl]
    by_cases hl : j < Y.length
    · rw [if_pos (by simpa using hl), if_pos ⟨rfl, hl⟩]
    · rw [if_neg (by simpa using hl), if_neg (by omega), List.getElem?_eq_none (by simp; omega)]
  · rw [if_neg e, if_neg (fun h => e h.1.symm)]
end

set_option maxHeartbeats 1000000 in
theorem e_marksB (base top : Nat) (A : Option Addr) (n c k : Nat) (Y : List BxV) (w : World) (own : NestB base w A n c Y) (hT : ∀ b, WBlk (.slice A n c) Y b → b < top) (hk : 1 ≤ k) (hk2 : k + cnt (lens Y) ≤ 1500000) :
    Calls Try.prog 41 #[.slice A n c, .int .i64 k] w fun e w' => e = .returned (.int .i64 ((k + cnt (lens Y) : Nat) : Int)) ∧ (∃ Z, NestB base w' A n c Z ∧ bxV Z = markB k (lens Y) ∧ vals Z = vals Y) ∧ Mid base top w w' := by
  have hln : Hid (Y.length = n) := own.len
  have hlen2 : Hid ((lens Y).length = n) := by show _ = _; unfold lens; rw [List.length_map]; exact own.len
  have hnb : n ≤ 1500000 := by have h1 := hlen2.out; have h2 := hk2; unfold cnt at h2; omega
  rcases own_form own.row with ⟨rfl, rfl⟩ | ⟨b, rfl⟩
  · have hY : Y = [] := List.eq_nil_of_length_eq_zero hln.out
    subst hY
    go_enter Try.func41, Try.ntmps41
    go_wp2_with fail
    go_loopw [1, 5] (fun r i wr => r = .int .i64 k ∧ i = .int .i64 0 ∧ wr = w) (fun _ _ _ => 0)
    case atStart => exact ⟨rfl, rfl, rfl⟩
    case round =>
      obtain ⟨rfl, rfl, rfl⟩ := hrel
      go_wp2_with fail
      go_ret
      exact ⟨rfl, ⟨[], own, rfl, rfl⟩, Mid.refl _ _ _⟩
  · have Own := hide own
    have HT := hide hT
    have HK := hide hk2
    clear own hT hk2
    go_enter Try.func41, Try.ntmps41
    go_wp2_with fail
    go_loopw [1, 5] (fun r i wr => ∃ (j q : Nat) (Z : List BxV), j ≤ n ∧ r = .int .i64 (q : Int) ∧ i = .int .i64 j ∧ Hid (q = k + cnt ((lens Y).take j)) ∧ Hid (NestB base wr (some ⟨b, 0, none⟩) n c Z) ∧ Hid (lens Z = lens Y ∧ vals Z = vals Y) ∧ Hid (∀ i, i < j → (bxV Z)[i]? = (markB k (lens Y))[i]?) ∧ Hid (Mid base top w wr)) (fun _ i _ => n - (intOf i).toNat)
    case atStart => exact ⟨0, k, Y, Nat.zero_le _, rfl, rfl, by simp [Hid, cnt], Own.out, ⟨rfl, rfl⟩, fun i h => absurd h (by omega), Mid.refl _ _ _⟩
    case round =>
      obtain ⟨j, q, Z, hj, rfl, rfl, hq, hN, hLV, hu, hMid⟩ := hrel
      by_cases hlt : j < n
      · have hzl : Hid (Z.length = n) := hN.out.len
        obtain ⟨y, hy⟩ : ∃ y, Z[j]? = some y := ⟨Z[j]'(by have := hzl.out; omega), List.getElem?_eq_getElem _⟩
        have hm : (lens Y)[j]? = some y.2.1.length := by rw [← hLV.out.1]; unfold lens; rw [List.getElem?_map, hy]; rfl
        have hcl := cnt_le hm
        have hct := cnt_take hm
        have hma := markB_at (k := k) hm
        have hq1 : q + 1 + y.2.1.length ≤ 1500000 := by have h1 := hq.out; have h2 := HK.out; omega
        obtain ⟨A4, c4, e4⟩ := own_slice' (hN.out.ids y (List.mem_of_getElem? hy))
        have Hy := hide hy
        have Hm := hide hm
        have Hct := hide hct
        have Hma := hide hma
        clear hm hy hcl hct hma
        go_wp2_with fail
        refine (e_mark q _ (by have := hq.out; omega) (by omega)).mono ?_
        rintro e w3 ⟨rfl, hb3⟩
        have N3 := hide (hN.out.below hb3)
        have M3 := hide (hMid.out.trans (Mid.of_below hb3))
        have hzz : (wcells Z).length = n * 2 := by rw [wcells_len]; have := hzl.out; omega
        have hcz : w3.cell? ⟨b, j * 2, none⟩ = some (.string y.1) := (N3.out.row.cellAt (j * 2) (by omega)).trans (wcells_at Hy.out).1
        have hcu : w3.cell? ⟨b, j * 2 + 1, none⟩ = some (.slice A4 y.2.1.length c4) := (N3.out.row.cellAt (j * 2 + 1) (by omega)).trans ((wcells_at Hy.out).2.trans (by rw [e4]))
        have hfz : w3.frozen? ⟨b, j * 2, none⟩ = false := N3.out.row.frozenAt (j * 2)
        have N4 := hide (N3.out.name Hy.out (mkT q))
        have hb : base ≤ b ∧ b < top := ⟨(hN.out.row.lt b rfl).1, HT.out b (.inl rfl)⟩
        have M4 := hide (M3.out.trans (Mid.of_grown (grown_set w3 ⟨b, j * 2, none⟩ (.string (mkT q))) (fun g e => by injection e with e; subst e; exact hb)))
        have Hy4 : Hid ((Z.set j (mkT q, y.2))[j]? = some (mkT q, y.2)) := List.getElem?_set_self (by have := hzl.out; omega)
        have Ht := hide (show mkT q = mkT q from rfl)
        clear hb3 hzz
        generalize htt : mkT q = t at *
        have Htt := hide htt
        clear htt
        go_wp2_with fail
        have f4 := N4.out.ids _ (List.mem_of_getElem? Hy4.out)
        have F4 := hide (show World.ownsRow _ base 3 1 (.slice A4 y.2.1.length c4) y.2.1.length (y.2.1.map (Value.int .i64)) from e4 ▸ f4)
        clear f4
        refine (e_marksI base A4 y.2.1.length c4 (q + 1) y.2.1 _ F4.out (by omega) (by omega) (by omega)).mono ?_
        rintro e w5 ⟨rfl, own5, gr5⟩
        have hG : w5.ownsRow base 3 1 y.2.2 (marksI (q + 1) y.2.1.length).length ((marksI (q + 1) y.2.1.length).map (Value.int .i64)) := by rw [marksI_len, e4]; exact own5
        have N5 := hide (N4.out.nums Hy4.out hG (show World.grownBy _ w5 y.2.2.ownBlock from e4.symm ▸ gr5))
        have M5 := hide (M4.out.trans (Mid.of_grown gr5 (fun g e => ⟨(F4.out.lt g e).1, HT.out g (wblk_vals hLV.out.2 (.inr ⟨y, List.mem_of_getElem? Hy.out, by rw [e4]; exact e⟩))⟩)))
        have HLV5 : Hid (lens ((Z.set j (t, y.2)).set j (t, marksI (q + 1) y.2.1.length, y.2.2)) = lens Y ∧ vals ((Z.set j (t, y.2)).set j (t, marksI (q + 1) y.2.1.length, y.2.2)) = vals Y) := by
          refine ⟨?_, ?_⟩
          · rw [lens_set (z := (t, marksI (q + 1) y.2.1.length, y.2.2)) Hy4.out (by exact marksI_len _ _), lens_set (z := (t, y.2)) Hy.out rfl]; exact hLV.out.1
          · rw [vals_set (z := (t, marksI (q + 1) y.2.1.length, y.2.2)) Hy4.out rfl, vals_set (z := (t, y.2)) Hy.out rfl]; exact hLV.out.2
        have H5 : Hid (∀ i, i < j + 1 → (bxV ((Z.set j (t, y.2)).set j (t, marksI (q + 1) y.2.1.length, y.2.2)))[i]? = (markB k (lens Y))[i]?) := fun i hi => by
          rw [bxV_set, bxV_set]
          by_cases e : i = j
          · subst e
            rw [if_pos ⟨rfl, by rw [List.length_set]; have := hzl.out; omega⟩, Hma.out, ← hq.out, Htt.out]
          · rw [if_neg (fun h => e h.1), if_neg (fun h => e h.1)]
            exact hu.out i (by omega)
        clear own5 gr5 hG
        go_wp2_with fail
        go_roundw
        case rel => exact ⟨j + 1, q + 1 + y.2.1.length, _, by omega, by go_num, by go_num, by show _ = _; have h1 := hq.out; have h2 := Hct.out; omega, N5.out, HLV5.out, H5, M5.out⟩
        case measure => simp [intOf]; omega
      · obtain rfl : j = n := by omega
        have hQ : Hid (q = k + cnt (lens Y)) := by
          have h := hq.out
          rw [List.take_of_length_le (by have := hlen2.out; omega)] at h
          exact h
        have HZ : Hid (bxV Z = markB k (lens Y)) := by
          apply List.ext_getElem?; intro i
          rcases Nat.lt_or_ge i j with hi | hi
          · exact hu.out i hi
          · rw [List.getElem?_eq_none (by rw [bxV_len]; have := hN.out.len; omega), List.getElem?_eq_none (by rw [markB_len]; have := hlen2.out; omega)]
        go_wp2_with fail
        go_ret
        exact ⟨by rw [hQ.out]; rfl, ⟨Z, hN.out, HZ.out, hLV.out.2⟩, hMid.out⟩

set_option maxHeartbeats 1000000 in
theorem e_heldB (A : Option Addr) (n c k : Nat) (ns : List Nat) (w : World) (hL : Bxs w w.heap.size A n (markB k ns)) (hk : 1 ≤ k) (hk2 : k + cnt ns ≤ 1500000) :
    Calls Try.prog 42 #[.slice A n c, .int .i64 k] w fun e w' => e = .returned (.int .i64 ((k + cnt ns : Nat) : Int)) ∧ Below w.heap.size w w' := by
  have hln : Hid (ns.length = n) := by have := hL.1; rw [markB_len] at this; exact this
  have hnb : n ≤ 1500000 := by have h1 := hln.out; have h2 := hk2; unfold cnt at h2; omega
  have HL := hide hL
  have HK := hide hk2
  clear hL hk2
  go_enter Try.func42, Try.ntmps42
  go_wp2_with fail
  go_loopw [1, 5] (fun r i wr => ∃ (j q : Nat), j ≤ n ∧ r = .int .i64 (q : Int) ∧ i = .int .i64 j ∧ Hid (q = k + cnt (ns.take j)) ∧ Hid (Below w.heap.size w wr)) (fun _ i _ => n - (intOf i).toNat)
  case atStart => exact ⟨0, k, Nat.zero_le _, rfl, rfl, by simp [Hid, cnt], Below.refl _ _⟩
  case round =>
    obtain ⟨j, q, hj, rfl, rfl, hq, hbr⟩ := hrel
    by_cases hlt : j < n
    · obtain ⟨m, hm⟩ : ∃ m, ns[j]? = some m := ⟨ns[j]'(by have := hln.out; omega), List.getElem?_eq_getElem _⟩
      have hma := markB_at (k := k) hm
      rw [← hq.out] at hma
      obtain ⟨g, off, A4, n4, c4, rfl, hg, hc0, hc1, hn4, hm4, hf⟩ := (HL.out.below hbr.out).at' hma
      have hcl := cnt_le hm
      have Hct := hide (cnt_take hm)
      have hq1 : q + 1 + m ≤ 1500000 := by have h1 := hq.out; have h2 := HK.out; omega
      have hsz := hbr.out.size
      have hgt : g < wr.heap.size := by omega
      have HF := hide hf.ints
      have hn4m : n4 = m := by have h1 := HF.out.1; rw [marksI_len] at h1; omega
      subst hn4m
      have hmk := fun W => e_mark q W (by have := hq.out; omega) (by omega)
      have HM := hide hmk
      clear hma hf hcl hm hmk
      generalize mkT q = t at *
      go_wp2_with fail
      go_region_with (go_at_call 68; refine (HM.out _).mono ?_; rintro e w3 ⟨rfl, hb3⟩; have hc3 : w3.cell? ⟨g, off + j * 2, none⟩ = some (.string t) := (hb3.cell (p := ⟨g, off + j * 2, none⟩) hgt).trans hc0)
      all_goals
        have hb3' : Below wr.heap.size wr w3 := (below_drewN' wr.heap.size wr 1).trans hb3
        have Hb13 : Hid (Below w.heap.size w w3) := hbr.out.trans (hb3'.mono hsz)
        have hc4 : w3.cell? ⟨g, off + j * 2 + 1, none⟩ = some (.slice A4 n4 c4) := (hb3'.cell (p := ⟨g, off + j * 2 + 1, none⟩) hgt).trans hc1
        have HF3 := hide ((HF.out.below (hb3'.mono hsz)).more (show w.heap.size ≤ w3.heap.size by have := hb3'.size; omega))
        clear hb3 hb3'
        go_wp2_with fail
        refine (e_heldI A4 n4 c4 (q + 1) _ HF3.out (by omega) (by omega) (by omega)).mono ?_
        rintro e w5 ⟨rfl, hb5⟩
        have Hb5 := hide (Hb13.out.trans (hb5.mono Hb13.out.size))
        have hneg : ¬ (((q + 1 + n4 : Nat) : Int) < 0) := by omega
        obtain ⟨q2, hq2⟩ : ∃ q2, q2 = q + 1 + n4 := ⟨_, rfl⟩
        have Hq2 := hide hq2
        rw [← hq2] at hneg ⊢
        clear hb5 hq2
        go_wp2_with fail
        go_roundw
        case rel => exact ⟨j + 1, q2, by omega, by go_num, by go_num, by show _ = _; have h1 := hq.out; have h2 := Hct.out; have h3 := Hq2.out; omega, Hb5.out⟩
        case measure => simp [intOf]; omega
    · have hQ : Hid (q = k + cnt ns) := by
        have h := hq.out
        rw [List.take_of_length_le (by have := hln.out; omega)] at h
        exact h
      go_wp2_with fail
      go_ret
      exact ⟨by rw [hQ.out]; rfl, hbr.out⟩
end Go.Proofs.Ytfncmkmhdddmiaa
