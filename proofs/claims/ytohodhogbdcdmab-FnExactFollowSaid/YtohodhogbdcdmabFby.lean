/- impl.FollowedBy. -/
import Derived.Test.YtohodhogbdcdmabNms
import Derived.Test.YtohodhogbdcdmabFof
import Derived.Shelf.SlicesE.DeleteFunc
import Derived.Shelf.SlicesE.IndexFunc
set_option linter.unusedVariables false
set_option linter.unusedSimpArgs false
namespace Go.Proofs.Ytohodhogbdcdmab
open Go.RowKit Go.Sort Go.Shelf

/-- A string that is no longer than any may be. -/
abbrev SB := { s : ByteArray // s.size ≤ maxLen }
instance : Inhabited SB := ⟨⟨ByteArray.empty, Nat.zero_le _⟩⟩
def encB (s : SB) : Value := .string s.1
def toSB (s : ByteArray) : SB := if h : s.size ≤ maxLen then ⟨s, h⟩ else default
theorem toSB_1 {s : ByteArray} (h : s.size ≤ maxLen) : (toSB s).1 = s := by unfold toSB; rw [dif_pos h]

theorem grown_sort (enc : SB → Value) (w : World) (blk off m : Nat) (dk : Array SB) (os : Array Obj) : w.grownBy (sortWorld enc w blk off m dk os) (some blk) := by
  refine ⟨rfl, rfl, rfl, ?_, fun k hk hn => ?_⟩
  · show w.heap.size ≤ ((Sort.ahead w m).heap.modify blk _ ++ os).size
    rw [Array.size_append, Array.size_modify]; exact Nat.le_add_right _ _
  · unfold sortWorld
    rw [heap_grow_old _ _ (by show k < ((Sort.ahead w m).heap.modify blk _).size; rw [Array.size_modify]; exact hk)]
    show ((Sort.ahead w m).heap.modify blk _)[k]? = _
    rw [Array.getElem?_modify, if_neg (fun e => hn (by rw [e]))]
    rfl

set_option maxHeartbeats 1000000 in
theorem by_gives (x : SB) (name : ByteArray) (B1 B2 b n : Nat) (M : List Acc) (ok : Nat → Prop) (W : World) (hok : ∀ g, ok g → g < W.heap.size) (h1 : W.cell? ⟨B1, 0, none⟩ = some (.map (some b))) (h2 : W.cell? ⟨B2, 0, none⟩ = some (.string name)) (hb : Book W ok b n M) :
    FnGives Try.prog 62 #[.pointer (some ⟨B1, 0, none⟩), .pointer (some ⟨B2, 0, none⟩)] #[encB x] (.bool (!memB (fol M x.1) name)) W := by
  show Calls Try.prog 62 #[.string x.1, .pointer (some ⟨B1, 0, none⟩), .pointer (some ⟨B2, 0, none⟩)] W _
  obtain ⟨v, hrun, hf⟩ := hb.look x.2
  obtain ⟨A', n', c', e, _, hm', _⟩ := id hf
  subst e
  have Hf := hide (hf.more (ok' := (· < W.heap.size)) hok).strs
  clear hf hb hok
  go_enter Try.func62, Try.ntmps62
  go_wp2_with fail
  refine (c_hasN A' n' c' _ name _ Hf.out hm').mono ?_
  rintro e w' ⟨rfl, rfl⟩
  go_wp2_with fail
  go_ret
  exact ⟨rfl, 0, rfl⟩

theorem byF_names {X : List Acc} (h : asB X = true) (s : ByteArray) : (nms X).filter (fun t => memB (fol X t) s) = byF X s := by
  unfold nms byF
  rw [List.filter_map]
  congr 1
  apply List.filter_congr
  intro a ha
  obtain ⟨k, hk, e⟩ := List.mem_iff_getElem.1 ha
  show memB (fol X a.1) s = memB a.2 s
  rw [fol_at (asB_asc h) (by rw [List.getElem?_eq_getElem hk, e])]

/-- The row behind DeleteFunc. -/
theorem own_put {w : World} {base blk n cap q : Nat} {L R : List ByteArray} (h : w.ownsRow base 9 1 (.slice (some ⟨blk, 0, none⟩) n cap) n (L.map Value.string)) (D : List SB) (m : Nat) (hD : D.length = n) (hm : m ≤ n) (hR : (D.take m).map (fun x => encB x) = R.map Value.string) :
    (putRow encB (Sort.ahead w q) blk 0 D.toArray).ownsRow base 9 1 (.slice (some ⟨blk, 0, none⟩) m cap) m (R.map Value.string) := by
  rcases h.2 with ⟨h1, _⟩ | ⟨g, cap', cur, h1, hg, hb, hn, hc, hcs, ht⟩
  · cases h1
  injection h1 with h1 _ h3
  injection h1 with h1
  injection h1 with h1
  subst h1 h3
  refine ⟨by rw [← hR]; simp; omega, .inr ⟨blk, cap, putCells encB 0 D.toArray cur, rfl, hg, ?_, by omega, hc, by simp [putCells, hcs], ?_⟩⟩
  · simp [putRow, mapBlock, Sort.ahead, Array.getElem?_modify, hb, onCells]
  · rw [← hR]
    apply List.ext_getElem?
    intro j
    rw [Nat.mul_one, List.getElem?_take, List.getElem?_map, List.getElem?_take]
    by_cases hj : j < m
    · rw [if_pos hj, if_pos hj]
      have hjc : j < cur.size := by omega
      have hjD : j < D.length := by omega
      simp only [putCells, Array.getElem?_toList, Array.getElem?_mapIdx, Array.getElem?_eq_getElem hjc, Option.map_some, List.size_toArray, Nat.zero_le, true_and, Nat.zero_add, if_pos hjD, Nat.sub_zero, List.getElem?_eq_getElem hjD]
      rw [getElem!_pos _ j (by simpa using hjD)]
      simp
    · rw [if_neg hj, if_neg hj]; rfl

set_option maxHeartbeats 1000000 in
/-- DeleteFunc of no names. -/
theorem del_none (a : Option Addr) (c : Nat) (f : Value) (w : World) :
    Calls Try.prog 60 #[.slice a 0 c, f] w fun e w' => e = .returned (.slice a 0 c) ∧ w = w' := by
  have idx : Calls Try.prog 74 #[.slice a 0 c, f] w fun e w' => e = .returned (.int .i64 (-1)) ∧ w = w' := by
    go_enter Try.func74, Try.ntmps74
    go_wp2_with fail
    go_loop [8] (fun i => i = .int .i64 0) (fun _ => 0)
    case atStart => rfl
    case round =>
      subst hrel
      go_wp2_with fail
      go_ret
      exact ⟨rfl, rfl⟩
  have Idx := hide idx
  clear idx
  go_enter Try.func60, Try.ntmps60
  go_wp2_with fail
  refine (Idx.out).mono ?_
  rintro e w' ⟨rfl, rfl⟩
  go_wp2_with fail
  go_ret
  exact ⟨rfl, rfl⟩

theorem del_some (blk n cap : Nat) (X : List Acc) (name : ByteArray) (B1 B2 b k base : Nat) (ok : Nat → Prop) (w : World) (hv : asB X = true) (hown : w.ownsRow base 9 1 (.slice (some ⟨blk, 0, none⟩) n cap) n ((nms X).map Value.string))
    (h1 : w.cell? ⟨B1, 0, none⟩ = some (.map (some b))) (h2 : w.cell? ⟨B2, 0, none⟩ = some (.string name)) (hb : Book w ok b k X) (hok : ∀ g, ok g → g < base) (hB1 : B1 < base) (hB2 : B2 < base) (hbb : b < base) (hbs : base ≤ w.heap.size) :
    Calls Try.prog 60 #[.slice (some ⟨blk, 0, none⟩) n cap, .func (.func 62) #[] #[.pointer (some ⟨B1, 0, none⟩), .pointer (some ⟨B2, 0, none⟩)]] w fun e w' =>
      ∃ m, e = .returned (.slice (some ⟨blk, 0, none⟩) m cap) ∧ w'.ownsRow base 9 1 (.slice (some ⟨blk, 0, none⟩) m cap) m ((byF X name).map Value.string) ∧ w.grownBy w' (some blk) := by
  have hlt := hown.lt blk rfl
  have hcap := own_cap hown
  have hlen : (nms X).length = n := own_len' hown
  have hsm : ∀ s ∈ nms X, s.size ≤ maxLen := fun s hs => by
    obtain ⟨kk, F, hk⟩ := nms_mem hs
    exact nvB_small (asB_acc hv (List.mem_of_getElem? hk)).1
  have eg : ∀ args w, (callFunc 62 args).run Try.prog w = .ok (.enter 62 args) w := enters_of Try.func62 (by kernel_rfl) rfl
  let d : Array SB := ((nms X).map toSB).toArray
  have hds : d.size = n := by show ((nms X).map toSB).toArray.size = n; simp [hlen]
  have hgiv : ∀ (W : World) (x : SB), w.grownBy W (some blk) → FnGives Try.prog 62 #[.pointer (some ⟨B1, 0, none⟩), .pointer (some ⟨B2, 0, none⟩)] #[encB x] (.bool (!memB (fol X x.1) name)) W := by
    intro W x hg
    have hne : ∀ g, g < base → some g ≠ some blk := fun g hg e => by injection e; omega
    have hc : ∀ p : Addr, p.block < base → W.cell? p = w.cell? p := fun p hp => World.cell?_of_block (hg.block p.block (by omega) (hne _ hp))
    exact by_gives x name B1 B2 b k X ok W (fun g h => by have := hok g h; have := hg.size; omega) ((hc ⟨B1, 0, none⟩ hB1).trans h1) ((hc ⟨B2, 0, none⟩ hB2).trans h2) (hb.keep hg (hne _ hbb) (fun q hq => hc q (hok _ hq)))
  have hp : PredAt Try.prog 62 #[.pointer (some ⟨B1, 0, none⟩), .pointer (some ⟨B2, 0, none⟩)] encB (fun x => !memB (fol X x.1) name) w := fun W x hW => hgiv W x (grown_of_below hW)
  have hpo : PredOver Try.prog 62 #[.pointer (some ⟨B1, 0, none⟩), .pointer (some ⟨B2, 0, none⟩)] encB (fun x => !memB (fol X x.1) name) blk 0 d.size w := fun m os dk x _ => hgiv _ x (grown_sort encB w blk 0 m dk os)
  have hH : Holds encB w blk 0 d := fun j hj => by
    have hj' : j < n := by omega
    refine ⟨?_, by rw [Nat.zero_add]; exact hown.frozenAt j⟩
    rw [Nat.zero_add, hown.cellAt j (by omega), List.getElem?_map, List.getElem?_eq_getElem (by omega)]
    rw [getElem!_pos d j hj]
    show some (Value.string (nms X)[j]) = some (Value.string (((nms X).map toSB).toArray[j]'hj).1)
    rw [List.getElem_toArray, List.getElem_map, toSB_1 (hsm _ (List.getElem_mem _))]
  have hcon := AnyE.slices_DeleteFunc delL encB (fun _ => rfl) (fun x => !memB (fol X x.1) name) 62 _ eg default (fun w => by kernel_rfl) blk 0 cap d w hp hpo hH (by rw [hds]; have := hcap.2; have := hcap.1; unfold maxLen at *; omega) (by rw [hds]; exact hcap.1)
  rw [hds] at hcon
  refine Calls.mono hcon fun e w' ⟨he, q, hw⟩ => ?_
  have hfil : (d.toList.filter fun x => !(!memB (fol X x.1) name)).map (fun x => encB x) = (byF X name).map Value.string := by
    rw [← byF_names hv name]
    show ((((nms X).map toSB).filter fun x => !(!memB (fol X x.1) name)).map fun x => encB x) = _
    rw [List.filter_map, List.map_map]
    have hf : (nms X).filter ((fun x : SB => !(!memB (fol X x.1) name)) ∘ toSB) = (nms X).filter (fun t => memB (fol X t) name) := by
      apply List.filter_congr
      intro s hs
      show (!(!memB (fol X (toSB s).1) name)) = memB (fol X s) name
      rw [toSB_1 (hsm s hs), Bool.not_not]
    rw [hf]
    apply List.map_congr_left
    intro s hs
    show Value.string (toSB s).1 = Value.string s
    rw [toSB_1 (hsm s (List.mem_filter.1 hs).1)]
  have hml : (d.toList.filter fun x => !(!memB (fol X x.1) name)).length ≤ n := by
    have := List.length_filter_le (fun x : SB => !(!memB (fol X x.1) name)) d.toList
    have h2 : d.toList.length = n := by rw [Array.length_toList]; exact hds
    omega
  refine ⟨_, he, ?_, ?_⟩
  · rw [hw]
    exact own_put hown _ _ (by rw [List.length_append, List.length_replicate]; omega) hml (by rw [List.take_left]; exact hfil)
  · rw [hw]
    have h := grown_sort encB w blk 0 q ((d.toList.filter fun x : SB => !(!memB (fol X x.1) name)) ++ List.replicate (n - (d.toList.filter fun x : SB => !(!memB (fol X x.1) name)).length) default).toArray #[]
    unfold sortWorld at h
    have e0 : ∀ W : World, grow W #[] = W := fun W => by unfold grow; rw [Array.append_empty]
    rw [e0] at h
    exact h

set_option maxHeartbeats 1000000 in
theorem i_fby (A : Option Addr) (n c : Nat) (X : List Acc) (s : ByteArray) (w : World) (hX : Accs w w.heap.size A n X) (hS : ASmall X) (hn : n ≤ maxLen) :
    Calls Try.prog 35 #[.slice A n c, .string s] w fun e w' => Own1 w (byM X s) e w' := by
  have HX := hide (hX.on ((Below.refl _ _).alloc (Nat.le_refl _) (.cells #[.string s] 9)))
  have HS := hide hS
  have Hn := hide hn
  clear hX hS hn
  go_enter Try.func35, Try.ntmps35
  go_wp2_with fail
  refine (i_book A n c X _ HX.out HS.out Hn.out).mono ?_
  rintro e w1 (⟨hv, rfl, hb1⟩ | ⟨hv, b, rfl, hb, hbk, hb1⟩)
  · have H := hide (byM_f (s := s) hv)
    have Hb1 := hide hb1
    clear hv hb1
    go_wp2_with fail
    go_ret
    refine ⟨_, rfl, by rw [H.out]; exact OwnL.nil _ _, ((Below.refl _ _).alloc (Nat.le_refl _) _).trans ((Hb1.out.mono (by simp)).trans ((Below.refl _ _).alloc ?_ _))⟩
    have := Hb1.out.size; simp at this; omega
  · have H := hide (byM_t (s := s) hv)
    have Hv := hide hv
    have hs1 : w.heap.size + 1 ≤ w1.heap.size := by have := hb1.size; simpa using this
    have hblt := hbk.lt
    have Hb1 := hide hb1
    have Hb0 : Hid (Below w.heap.size w w1) := ((Below.refl _ _).alloc (Nat.le_refl _) _).trans (hb1.mono (by simp))
    have hcn : w1.cell? ⟨w.heap.size, 0, none⟩ = some (.string s) := (hb1.cell (p := ⟨w.heap.size, 0, none⟩) (by simp)).trans ((Blk.new _ _ _).cell 0)
    have Hbk2 : Hid (Book (w1.alloc (.cells #[.map (some b)] 58)) (· < w.heap.size + 1) b 6 X) := by
      have h := hbk.keep (World.grownBy_alloc w1 (.cells #[.map (some b)] 58) none) (by simp) (fun q hq => ((Below.refl w1.heap.size w1).alloc (Nat.le_refl _) _).cell (by simp at hq; omega))
      exact h.more fun g hg => by simpa using hg
    clear hv hbk hb1 hb
    go_wp2_with fail
    refine (names_of b 6 X _ _ Hbk2.out (asB_asc Hv.out) (asB_6 Hv.out)).mono ?_
    rintro e w3 ⟨v, rfl, ⟨A3, n3, c3, rfl, own3⟩, hb3⟩
    have Hb3 := hide hb3
    have Own3 := hide own3
    have hs3 := hb3.size
    simp only [World.size_alloc] at hs3
    have hW : Hid (Below w.heap.size w w3) := Hb0.out.trans (((Below.refl w.heap.size w1).alloc (by omega) _).trans (hb3.mono (by simp; omega)))
    have d1 : w3.cell? ⟨w1.heap.size, 0, none⟩ = some (.map (some b)) := (hb3.cell (p := ⟨w1.heap.size, 0, none⟩) (by simp)).trans ((Blk.new _ _ _).cell 0)
    have d2 : w3.cell? ⟨w.heap.size, 0, none⟩ = some (.string s) := (hb3.cell (p := ⟨w.heap.size, 0, none⟩) (by simp; omega)).trans ((((Below.refl w1.heap.size w1).alloc (Nat.le_refl _) _).cell (p := ⟨w.heap.size, 0, none⟩) (by show w.heap.size < w1.heap.size; omega)).trans hcn)
    have Hbk3 : Hid (Book w3 (· < w.heap.size + 1) b 6 X) := Hbk2.out.keep (grown_of_below hb3 (row := none)) (by simp) (fun q hq => hb3.cell (by simp; omega))
    clear hb3 own3 hcn
    by_cases h0 : n3 = 0
    · subst h0
      have hN : Hid (byF X s = []) := by
        have h1 := own_len' Own3.out
        have h2 : nms X = [] := List.eq_nil_of_length_eq_zero h1
        show _ = _
        rw [← byF_names Hv.out, h2]; rfl
      go_wp2_with fail
      refine (del_none A3 c3 _ _).mono ?_
      rintro e w' ⟨rfl, rfl⟩
      go_wp2_with fail
      go_ret
      refine ⟨_, rfl, ?_, hW.out⟩
      rw [H.out, hN.out]
      exact ⟨A3, 0, c3, rfl, own_base ⟨by simp, Own3.out.2.elim (fun h => .inl h) (fun ⟨g, cap, cur, e1, e2, e3, e4, e5, e6, e7⟩ => .inr ⟨g, cap, cur, e1, e2, e3, e4, e5, e6, by simp⟩)⟩ (by simp; omega)⟩
    · obtain ⟨blk, cap, hvv, hbl, hlt⟩ := Own3.out.form (by omega)
      injection hvv with e1 _ e3
      subst e1 e3
      go_wp2_with fail
      refine (del_some blk n3 c3 X s w1.heap.size w.heap.size b 6 (w1.heap.size + 1) (· < w.heap.size + 1) w3 Hv.out (own_base Own3.out (by simp)) d1 d2 Hbk3.out (fun g hg => by omega) (by omega) (by omega) (by omega) (by omega)).mono ?_
      rintro e w4 ⟨m, rfl, own4, hg4⟩
      go_wp2_with fail
      go_ret
      refine ⟨_, rfl, by rw [H.out]; exact ⟨_, _, _, rfl, own_base own4 (by omega)⟩, ?_⟩
      simp only [World.size_alloc] at hbl
      exact hW.out.grown hg4 (by omega) (fun q hq => by injection hq; omega)
end Go.Proofs.Ytohodhogbdcdmab
