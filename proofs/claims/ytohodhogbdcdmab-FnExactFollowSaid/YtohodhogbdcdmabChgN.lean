/- accountBook.accounts, changeFollowers, Follow, Unfollow: the followers of each account lie in a block of their own. -/
import Derived.Test.YtohodhogbdcdmabChg
import Derived.Test.YtohodhogbdcdmabNest
import Derived.Maps.OwnSet
set_option linter.unusedVariables false
set_option linter.unusedSimpArgs false
namespace Go.Proofs.Ytohodhogbdcdmab
open Go.RowKit Go.Maps

/-- A list of accounts in memory of the call's own. -/
def OwnN (base : Nat) (w : World) (v : Value) (X : List Acc) : Prop := ∃ A n c, v = .slice A n c ∧ Nest base w A n c X
theorem OwnN.nil (base : Nat) (w : World) : OwnN base w (.slice none 0 0) [] := ⟨none, 0, 0, rfl, [], rfl, World.ownsRow_nil _ _ _ _, fun y h => (by cases h), fun y h => (by cases h), List.Pairwise.nil⟩
theorem OwnN.down {base base' : Nat} {w : World} {v : Value} {X : List Acc} (h : OwnN base w v X) (hb : base' ≤ base) : OwnN base' w v X := by
  obtain ⟨A, n, c, rfl, Y, e, hN⟩ := h
  exact ⟨A, n, c, rfl, Y, e, own_base hN.row hb, fun y hy => own_base (hN.fol y hy) hb, hN.far, hN.two⟩
/-- The loop of accounts: what has been built, the names' row. -/
def AcctsN (w w2 : World) (M : List Acc) (A3 : Option Addr) (k : Nat) (v : Value) (wr : World) : Prop :=
  OwnN w.heap.size wr v (M.take k) ∧ Below w.heap.size w wr ∧ w2.heap.size ≤ wr.heap.size ∧ ∀ g3, A3 = some ⟨g3, 0, none⟩ → v.ownBlock ≠ some g3 ∧ wr.heap[g3]? = w2.heap[g3]?

theorem acctsN_step {w w2 wr w6 w7 : World} {M : List Acc} {A3 : Option Addr} {k n c : Nat} {A : Option Addr} {v6 v7 : Value} {a : Acc} {Y : List AccV} (h : AcctsN w w2 M A3 k (.slice A n c) wr) (ha : M[k]? = some a) (h3 : ∀ g3, A3 = some ⟨g3, 0, none⟩ → g3 < w2.heap.size)
    (hb6 : Below wr.heap.size wr w6) (hY : NestY w.heap.size wr A n c Y) (e : accsV Y = M.take k) (h6 : OwnL wr.heap.size w6 v6 a.2)
    (own7 : w7.ownsRow w.heap.size 31 2 v7 (n + 1) (vcells Y ++ [.string a.1, v6])) (gr7 : (w6.alloc (.cells #[.string a.1, v6] 31)).grownBy w7 (Value.slice A n c).ownBlock)
    (at7 : v7.ownBlock = (Value.slice A n c).ownBlock ∨ v7.ownBlock = some (w6.alloc (.cells #[.string a.1, v6] 31)).heap.size) : AcctsN w w2 M A3 (k + 1) v7 w7 := by
  obtain ⟨hO, hB, hS, hG⟩ := h
  have hs6 := hb6.size
  have hsB := hB.size
  have hgs := gr7.size
  simp only [World.size_alloc] at hgs
  have hlt : ∀ q, (Value.slice A n c).ownBlock = some q → w.heap.size ≤ q ∧ q < wr.heap.size := fun q hq => hY.row.lt q hq
  obtain ⟨A6, n6, c6, rfl, o6⟩ := h6
  have hlen6 : a.2.length = n6 := own_len' o6
  have hY6 := hY.below hb6
  have o6' := o6.alloc (.cells #[.string a.1, .slice A6 n6 c6] 31)
  have hbl6 : ∀ q, (Value.slice A6 n6 c6).ownBlock = some q → wr.heap.size ≤ q ∧ q < w6.heap.size := fun q hq => o6.lt q hq
  have kept7 : ∀ {e : TypeId} {size m : Nat} {v : Value} {xs : List Value}, (w6.alloc (.cells #[.string a.1, .slice A6 n6 c6] 31)).ownsRow w.heap.size e size v m xs → (∀ q, v.ownBlock = some q → (Value.slice A n c).ownBlock ≠ some q) → w7.ownsRow w.heap.size e size v m xs := by
    intro e size m v xs ho hne
    refine ho.kept gr7 ?_
    cases hv : v.ownBlock with
    | none => exact .inl rfl
    | some q => exact .inr (fun e => hne q hv e.symm)
  obtain ⟨A7, c7, rfl⟩ : ∃ A7 c7, v7 = .slice A7 (n + 1) c7 := by
    rcases own7.2 with ⟨rfl, h⟩ | ⟨_, cap, _, rfl, _⟩
    · omega
    · exact ⟨_, _, rfl⟩
  have hat : ∀ q, (q < w6.heap.size) → (Value.slice A n c).ownBlock ≠ some q → (Value.slice A7 (n + 1) c7).ownBlock ≠ some q := by
    intro q hq hne
    rcases at7 with e | e
    · rw [e]; exact hne
    · rw [e]; intro h; simp at h; omega
  refine ⟨⟨A7, n + 1, c7, rfl, Y ++ [(a.1, a.2, .slice A6 n6 c6)], ?_, ?_, ?_, ?_, ?_⟩, ?_, by omega, fun g3 e3 => ?_⟩
  · rw [take_next ha, ← e]; simp [accsV]
  · rw [vcells_app]; exact own7
  · intro y hy
    rcases List.mem_append.1 hy with h | h
    · exact kept7 ((hY6.fol y h).alloc _) (fun q hq => hY.far y h q hq)
    · rw [List.mem_singleton.1 h, hlen6]
      exact kept7 (own_base o6' hsB) (fun q hq e => by have := hbl6 q hq; have := hlt q e; omega)
  · intro y hy q hq
    rcases List.mem_append.1 hy with h | h
    · exact hat q (by have := (hY6.fol y h).lt q hq; omega) (hY.far y h q hq)
    · rw [List.mem_singleton.1 h] at hq
      exact hat q (hbl6 q hq).2 (fun e => by have := hbl6 q hq; have := hlt q e; omega)
  · rw [List.pairwise_append]
    refine ⟨hY.two, List.pairwise_singleton _ _, fun y hy z hz q hq e => ?_⟩
    rw [List.mem_singleton.1 hz] at e
    have h1 := (hY.fol y hy).lt q hq
    have h2 := hbl6 q e
    omega
  · exact Below.own ((hB.trans (hb6.mono hsB)).alloc (by omega) _) gr7 ((hY6.row).alloc _) (Nat.le_refl _) (by simp; omega)
  · obtain ⟨g1, g2⟩ := hG g3 e3
    have hg3 := h3 g3 e3
    refine ⟨?_, ?_⟩
    · rcases at7 with e | e
      · rw [e]; exact g1
      · rw [e]; intro h; simp at h; omega
    · rw [gr7.block g3 (by simp; omega) (fun e => g1 e.symm), Below.heap_alloc _ _ g3 (by omega), hb6.block g3 (by omega)]
      exact g2

set_option maxHeartbeats 1000000 in
set_option maxRecDepth 100000 in
theorem accts_ofN (b : Nat) (M : List Acc) (ok : Nat → Prop) (w : World) (hb : Book w ok b 6 M) (ha : Asc (nms M)) (hl : M.length ≤ 6) (hok : ∀ g, ok g → g < w.heap.size) (hsm : ∀ a ∈ M, a.1.size ≤ maxLen) (hfo : ∀ a ∈ M, a.2.length ≤ 1000) :
    Calls Try.prog 65 #[.map (some b)] w fun e w' => ∃ v, e = .returned v ∧ OwnN w.heap.size w' v M ∧ Below w.heap.size w w' := by
  obtain ⟨i1, hi1, hy0, hy1, hy2⟩ := info_parts acc_info
  have hUA := Try.underlying23
  obtain ⟨D, d1, d2⟩ := id hb
  have hq6 : Maps.size D ≤ 6 := d1.size_le
  have hblt := hb.lt
  have D1 := hide d1
  have Hb := hide hb
  have Ha := hide ha
  have Hok := hide hok
  have Hsm := hide hsm
  have Hfo := hide hfo
  have hbm : i1.bytes * Maps.size D ≤ 281474976710656 := by rw [hy2]; omega
  have hbm2 : Maps.size D ≤ maxLen := by unfold maxLen; omega
  clear hb ha hok hsm hfo d1 d2
  generalize hqq : Maps.size D = q at *
  have Hqq := hide hqq
  clear hqq
  go_enter Try.func65, Try.ntmps65
  go_wp2_with (first
    | (at_len
       refine wpList_len_own _ rfl _ 58 rfl 9 61 Try.underlying58 Rv b 6 D rfl D1.out ?_
       rw [Hqq.out])
    | (at_make
       refine wpList_make_own _ rfl (.const (.int .i64 0)) (.tmp 7) _ rfl w.heap.size 31 i1 _ 2 hUA hi1 hy0 hy1 .i64 .i64 (q : Int) q rfl rfl rfl hbm hbm2 (Nat.le_refl _) ?_
       intro w1 own1 gr1
       have hb1 : Below w.heap.size w w1 := (Below.refl _ _).grown gr1 (Nat.le_refl _) (by simp)
       have Hbk1 := hide (Hb.out.keep gr1 (by simp) (fun p hp => hb1.cell (Hok.out _ hp)))
       have Own1 := hide own1
       have Hb1 := hide hb1
       clear gr1 own1 hb1))
  refine (names_of b 6 M _ _ Hbk1.out Ha.out hl).mono ?_
  rintro e w2 ⟨v3, rfl, ⟨A3, n3, c3, rfl, own3⟩, hb2⟩
  have Own3 := hide own3
  have hn3 : Hid (M.length = n3) := by have h := own_len' own3; rw [nms_len] at h; exact h
  have hs1 := Hb1.out.size
  have hs2 := hb2.size
  have h3lt : Hid (∀ g3, A3 = some ⟨g3, 0, none⟩ → w1.heap.size ≤ g3 ∧ g3 < w2.heap.size) := fun g3 e => by subst e; exact own3.lt g3 rfl
  have Hst : Hid (AcctsN w w2 M A3 0 (.slice (some ⟨w.heap.size, 0, none⟩) 0 q) w2) := by
    refine ⟨⟨_, 0, q, rfl, [], rfl, Own1.out.kept (grown_of_below hb2 (row := none)) (Classical.em _), fun y h => (by cases h), fun y h => (by cases h), List.Pairwise.nil⟩, Hb1.out.trans (hb2.mono hs1), Nat.le_refl _, fun g3 e => ⟨?_, rfl⟩⟩
    have h1 := h3lt.out g3 e
    have h2 := (Own1.out.lt w.heap.size rfl).2
    intro h; injection h with h; simp at h; omega
  have hn36 : n3 ≤ 6 := by have := hn3.out; omega
  clear hb2 own3
  go_wp2_with fail
  go_loopw [3, 5, 12] (fun v _ i wr => ∃ k : Nat, k ≤ n3 ∧ i = .int .i64 k ∧ Hid (AcctsN w w2 M A3 k v wr)) (fun _ _ i _ => n3 - (intOf i).toNat)
  case atStart => exact ⟨0, Nat.zero_le _, rfl, Hst.out⟩
  case round =>
    obtain ⟨k, hk, rfl, hat⟩ := hrel
    by_cases hlt : k < n3
    · obtain ⟨a, hka⟩ : ∃ a, M[k]? = some a := ⟨M[k]'(by have := hn3.out; omega), List.getElem?_eq_getElem _⟩
      obtain ⟨hO, hB, hS, hG⟩ := hat.out
      obtain ⟨g3, cap3, e3, _, hg3⟩ := Own3.out.form (by omega)
      injection e3 with e31 _ e33
      subst e31 e33
      have hck : wr.cell? ⟨g3, k, none⟩ = some (.string a.1) := by
        rw [World.cell?_of_block (a := ⟨g3, k, none⟩) (hG g3 rfl).2, Own3.out.cellAt k (by omega), List.getElem?_map, nms_at hka]; rfl
      have hbk : Book wr ok b 6 M := Hb.out.keep (World.grownBy.mk hB.os hB.tape hB.output hB.size (fun q hq _ => hB.block q hq) : w.grownBy wr none) (by simp) (fun p hp => hB.cell (Hok.out _ hp))
      have hsma := Hsm.out a (List.mem_of_getElem? hka)
      obtain ⟨v4, hrun, hf⟩ := hbk.look hsma
      rw [fol_at Ha.out hka] at hf
      obtain ⟨A4, n4, c4, e4, _⟩ := id hf
      subst e4
      have hn4 : n4 ≤ 1000000 := by have h1 := (hf.more (ok' := (· < w.heap.size)) Hok.out).strs; have h2 := h1.1; have h3 := Hfo.out a (List.mem_of_getElem? hka); omega
      have hsB := hB.size
      have Hf : Hid (Fls wr (· < wr.heap.size) (.slice A4 n4 c4) a.2) := hf.more fun g hg => by have := Hok.out g hg; omega
      have Hka := hide hka
      have HO := hide hO
      have hlen : Hid ((M.take k).length = k) := by show _ = _; rw [List.length_take]; have := hn3.out; omega
      obtain ⟨Av, nv, cv, ev, Yv, eY, NY⟩ := hO
      have hnv : k = nv := by have h1 := NY.len; have h2 := congrArg List.length eY; rw [accsV_len, hlen.out] at h2; omega
      subst hnv
      subst ev
      have hNY := hide NY
      have hEY := hide eY
      clear hbk hf hka hB hS hG NY eY HO
      go_wp2_with fail
      refine (clone_any A4 n4 c4 a.2 _ Hf.out hn4).mono ?_
      rintro e w6 ⟨v6, rfl, hown6, hb6⟩
      obtain ⟨A6, n6, c6, e6, o6⟩ := hown6
      subst e6
      have hown6 : OwnL wr.heap.size w6 (.slice A6 n6 c6) a.2 := ⟨A6, n6, c6, rfl, o6⟩
      clear o6
      have hX := (hNY.out.below hb6).row
      have hs6 := hb6.size
      have hone : ∀ u ∈ [Value.string a.1, .slice A6 n6 c6], u.oneCell' = true := by
        intro u hu
        simp at hu
        rcases hu with rfl | rfl <;> rfl
      have b1 : k + 1 ≤ maxLen := by unfold maxLen; omega
      have b2 : (k + 1) * 40 ≤ 140737488355328 := bytes40' _ (by omega)
      have HX := hide hX
      have Hone := hide hone
      have Hb6 := hide hb6
      have Hown6 := hide hown6
      have hw6 : w.heap.size ≤ w6.heap.size := by omega
      have B2 := hide b2
      clear hX hone hb6 hown6 b2
      go_wp2_with (
        (at_builtin
         refine wpList_append_rd _ rfl (.tmp 16) (.tmp 23) _ rfl w.heap.size 31 i1 _ 2 40 hUA hi1 hy0 hy1 hy2 rfl (by omega) (.slice Av k cv) k (vcells Yv) rfl (HX.out.alloc _) (w6.heap.size + 1) (some ⟨w6.heap.size, 0, none⟩) 1 _ [Value.string a.1, .slice A6 n6 c6] rfl (Rd.two _ _ _ _) Hone.out b1 B2.out (by simp; omega) ?_
         intro v7 w7 own7 gr7 at7
         have H7 := hide (acctsN_step hat.out Hka.out (fun g e => (h3lt.out g e).2) Hb6.out hNY.out hEY.out Hown6.out own7 gr7 at7)
         clear own7 gr7 at7))
      go_roundw
      case rel => exact ⟨k + 1, by omega, by go_num, H7⟩
      case measure => simp [intOf]; omega
    · have HE : Hid (M.take k = M) := List.take_of_length_le (by have := hn3.out; omega)
      go_wp2_with fail
      go_ret
      obtain ⟨hO, hB, _, _⟩ := hat.out
      rw [HE.out] at hO
      exact ⟨_, rfl, hO, hB⟩

/-- Accounts in memory of the call's own, and whether it succeeds. -/
def Own2N (w : World) (o : Option (List Acc)) (e : Ending) (w' : World) : Prop := ∃ v, e = .returned (.tuple #[v, .bool o.isSome]) ∧ OwnN w.heap.size w' v (o.getD []) ∧ Below w.heap.size w w'

set_option maxHeartbeats 1000000 in
theorem chgN_Put (A : Option Addr) (n c : Nat) (X : List Acc) (who s : ByteArray) (w : World) (hX : Accs w w.heap.size A n X) (hS : ASmall X) (hn : n ≤ maxLen) (hs : s.size ≤ maxLen) (hw : who.size ≤ maxLen) :
    Calls Try.prog 41 #[.slice A n c, .string who, .string s, .func (.func 42) #[] #[]] w fun e w' => Own2N w (chgM putM X who s) e w' := by
  have HX := hide hX
  have HS := hide hS
  have Hn := hide hn
  have Hs := hide hs
  have Hw := hide hw
  clear hX hS hn hs hw
  go_enter Try.func41, Try.ntmps41
  go_wp2_with fail
  refine (i_book A n c X _ HX.out HS.out Hn.out).mono ?_
  rintro e w1 (⟨hv, rfl, hb1⟩ | ⟨hv, b, rfl, hb, hbk, hb1⟩)
  · have H := hide (chgM_1 putM who s hv)
    have Hb1 := hide hb1
    clear hv hb1
    go_wp2_with fail
    go_ret2
    exact ⟨_, by rw [H.out]; rfl, by rw [H.out]; exact OwnN.nil _ _, Hb1.out⟩
  obtain ⟨v, hrun, hf⟩ := hbk.look2 Hs.out
  have hsz1 := hb1.size
  cases hm : memB (nms X) s
  · rw [hm] at hrun
    have H := hide (chgM_2 putM who hm)
    have Hb1 := hide hb1
    clear hv hm hf hbk hb1
    go_wp2_with fail
    go_ret2
    exact ⟨_, by rw [H.out]; rfl, by rw [H.out]; exact OwnN.nil _ _, Hb1.out⟩
  rw [hm] at hrun
  obtain ⟨A', n', c', e, hnc', hm', _⟩ := id hf
  subst e
  have Hv := hide hv
  have Hm := hide hm
  have Hbk := hide hbk
  have Hb1 := hide hb1
  have Hf := hide (hf.more (ok' := (· < w1.heap.size)) (fun g hg => Nat.lt_of_lt_of_le hg hsz1)).strs
  have HsF := hide (nsB_small (fol_valid hv (memB_iff.1 hm)).1)
  clear hv hm hbk hb1 hf
  go_wp2_with fail
  refine (i_NamesPut A' n' c' (fol X s) who _ Hf.out HsF.out hnc' hm' Hw.out).mono ?_
  rintro e w2 ⟨v2, rfl, hown2, hb2⟩
  cases ho : putM (fol X s) who
  · have H := hide (chgM_3 putM ho)
    have Hb2 := hide (Hb1.out.trans (hb2.mono hsz1))
    clear hown2 hb2 ho
    go_wp2_with fail
    go_ret2
    exact ⟨_, by rw [H.out]; rfl, by rw [H.out]; exact OwnN.nil _ _, Hb2.out⟩
  rename_i G
  rw [ho] at hown2
  have hG := putM_len ho
  have H := hide (chgM_t putM Hv.out Hm.out ho)
  have hsz2 := hb2.size
  have Hbk2 : Hid (Book w2 (· < w2.heap.size) b 6 X) := (Hbk.out.keep (grown_of_below hb2 (row := none)) (by simp) (fun p hp => hb2.cell (Nat.lt_of_lt_of_le hp hsz1))).more fun g hg => by omega
  obtain ⟨A2, n2, c2, e2, o2⟩ := hown2
  subst e2
  have HfG : Hid (Fls w2 (· < w2.heap.size) (.slice A2 n2 c2) G) := (Fls.of_own o2).more fun b hb => hb.2.1
  have Hb2 := hide (Hb1.out.trans (hb2.mono hsz1))
  have hblt := Hbk.out.lt
  obtain ⟨D, d1, d2, d3, d4⟩ := Hbk2.out
  have D1 := hide d1
  have D2 := hide d2
  have D3 := hide d3
  have D4 := hide d4
  have HG := hide hG
  clear hb2 ho o2 d1 d2 d3 d4 hrun hG
  go_wp2_with (
    (at_mapUpdate
     refine wpList_mapUpdate_own _ rfl _ _ _ 58 rfl 9 61 keyT Try.underlying58 Rv b 6 D rfl D1.out (by unfold maxLen; omega) (.string s) (.slice A2 n2 c2) (kl s) rfl rfl (keyOf_s Hs.out) (.held (.slice A2 n2 c2)) [] rfl ?_
     intro w5 hown5 hgrow5
     have Hown5 := hide hown5
     have Hgrow5 := hide hgrow5
     clear hown5 hgrow5))
  have hs5 := Hgrow5.out.size
  have hkeep : ∀ q : Addr, q.block < w2.heap.size ∧ q.block ≠ b → w5.cell? q = w2.cell? q := fun q hq => World.cell?_of_block (Hgrow5.out.block _ hq.1 (fun e => by injection e with e; exact hq.2 e))
  have hsX := memB_iff.1 Hm.out
  have HB5 : Hid (Book w5 (fun g => g < w2.heap.size ∧ g ≠ b) b 6 (setF X s G)) := by
    have h := Book.set (w' := w5) D2.out D3.out (fun t ht => by obtain ⟨v, g1, g2⟩ := D4.out t ht; exact ⟨v, g1, g2.apart D1.out⟩) hsX ((HfG.out.apart D1.out).keep hkeep) hkeep (own_tight Hown5.out)
    obtain ⟨E, e1, e2⟩ := h
    refine ⟨E, (own_tight e1).mono ?_, e2⟩
    have h1 := (own_tight e1).size_le
    have h2 := e1.size_le
    rw [size_put D2.out, if_pos (by rw [D3.out s]; exact Hm.out)] at h2
    have h3 := D1.out.size_le
    omega
  have HW5 : Hid (Below w.heap.size w w5) := Hb2.out.grown Hgrow5.out (by omega) (fun q hq => by injection hq; omega)
  have hval : ∀ a ∈ X, nvB a.1 = true ∧ nsB a.2 = true ∧ a.1 ∉ a.2 := fun a ha => asB_acc Hv.out ha
  have hXs : ∀ a ∈ setF X s G, a.1.size ≤ maxLen := fun a ha => by
    have h1 : a.1 ∈ nms (setF X s G) := List.mem_map_of_mem ha
    rw [setF_nms] at h1
    obtain ⟨kk, F, hk⟩ := nms_mem h1
    exact nvB_small (hval _ (List.mem_of_getElem? hk)).1
  have hXf : ∀ a ∈ setF X s G, a.2.length ≤ 1000 := fun a ha => by
    unfold setF at ha
    obtain ⟨b, hb, rfl⟩ := List.mem_map.1 ha
    split
    · have := HG.out; show G.length ≤ 1000; omega
    · have := nsB_le (hval _ hb).2.1; omega
  have HXs := hide hXs
  have HXf := hide hXf
  have Hasc : Hid (Asc (nms (setF X s G))) := by show Asc _; rw [setF_nms]; exact asB_asc Hv.out
  have hl6 : (setF X s G).length ≤ 6 := by rw [setF_len]; exact asB_6 Hv.out
  have Hl6 := hide hl6
  clear hkeep hsX hval hXs hXf hl6
  refine (accts_ofN b (setF X s G) _ w5 HB5.out Hasc.out Hl6.out (fun g hg => by omega) HXs.out HXf.out).mono ?_
  rintro e w6 ⟨v6, rfl, hown6, hb6⟩
  go_wp2_with fail
  go_ret2
  exact ⟨v6, by rw [H.out]; rfl, by rw [H.out]; exact hown6.down (by have := Hb1.out.size; omega), HW5.out.trans (hb6.mono (by have := Hb1.out.size; omega))⟩

set_option maxHeartbeats 1000000 in
theorem chgN_Drop (A : Option Addr) (n c : Nat) (X : List Acc) (who s : ByteArray) (w : World) (hX : Accs w w.heap.size A n X) (hS : ASmall X) (hn : n ≤ maxLen) (hs : s.size ≤ maxLen) (hw : who.size ≤ maxLen) :
    Calls Try.prog 41 #[.slice A n c, .string who, .string s, .func (.func 23) #[] #[]] w fun e w' => Own2N w (chgM dropM X who s) e w' := by
  have HX := hide hX
  have HS := hide hS
  have Hn := hide hn
  have Hs := hide hs
  have Hw := hide hw
  clear hX hS hn hs hw
  go_enter Try.func41, Try.ntmps41
  go_wp2_with fail
  refine (i_book A n c X _ HX.out HS.out Hn.out).mono ?_
  rintro e w1 (⟨hv, rfl, hb1⟩ | ⟨hv, b, rfl, hb, hbk, hb1⟩)
  · have H := hide (chgM_1 dropM who s hv)
    have Hb1 := hide hb1
    clear hv hb1
    go_wp2_with fail
    go_ret2
    exact ⟨_, by rw [H.out]; rfl, by rw [H.out]; exact OwnN.nil _ _, Hb1.out⟩
  obtain ⟨v, hrun, hf⟩ := hbk.look2 Hs.out
  have hsz1 := hb1.size
  cases hm : memB (nms X) s
  · rw [hm] at hrun
    have H := hide (chgM_2 dropM who hm)
    have Hb1 := hide hb1
    clear hv hm hf hbk hb1
    go_wp2_with fail
    go_ret2
    exact ⟨_, by rw [H.out]; rfl, by rw [H.out]; exact OwnN.nil _ _, Hb1.out⟩
  rw [hm] at hrun
  obtain ⟨A', n', c', e, hnc', hm', _⟩ := id hf
  subst e
  have Hv := hide hv
  have Hm := hide hm
  have Hbk := hide hbk
  have Hb1 := hide hb1
  have Hf := hide (hf.more (ok' := (· < w1.heap.size)) (fun g hg => Nat.lt_of_lt_of_le hg hsz1)).strs
  have HsF := hide (nsB_small (fol_valid hv (memB_iff.1 hm)).1)
  clear hv hm hbk hb1 hf
  go_wp2_with fail
  refine (i_NamesDrop A' n' c' (fol X s) who _ Hf.out HsF.out hnc' hm' ).mono ?_
  rintro e w2 ⟨v2, rfl, hown2, hb2⟩
  cases ho : dropM (fol X s) who
  · have H := hide (chgM_3 dropM ho)
    have Hb2 := hide (Hb1.out.trans (hb2.mono hsz1))
    clear hown2 hb2 ho
    go_wp2_with fail
    go_ret2
    exact ⟨_, by rw [H.out]; rfl, by rw [H.out]; exact OwnN.nil _ _, Hb2.out⟩
  rename_i G
  rw [ho] at hown2
  have hG := dropM_len ho
  have H := hide (chgM_t dropM Hv.out Hm.out ho)
  have hsz2 := hb2.size
  have Hbk2 : Hid (Book w2 (· < w2.heap.size) b 6 X) := (Hbk.out.keep (grown_of_below hb2 (row := none)) (by simp) (fun p hp => hb2.cell (Nat.lt_of_lt_of_le hp hsz1))).more fun g hg => by omega
  obtain ⟨A2, n2, c2, e2, o2⟩ := hown2
  subst e2
  have HfG : Hid (Fls w2 (· < w2.heap.size) (.slice A2 n2 c2) G) := (Fls.of_own o2).more fun b hb => hb.2.1
  have Hb2 := hide (Hb1.out.trans (hb2.mono hsz1))
  have hblt := Hbk.out.lt
  obtain ⟨D, d1, d2, d3, d4⟩ := Hbk2.out
  have D1 := hide d1
  have D2 := hide d2
  have D3 := hide d3
  have D4 := hide d4
  have HG := hide hG
  clear hb2 ho o2 d1 d2 d3 d4 hrun hG
  go_wp2_with (
    (at_mapUpdate
     refine wpList_mapUpdate_own _ rfl _ _ _ 58 rfl 9 61 keyT Try.underlying58 Rv b 6 D rfl D1.out (by unfold maxLen; omega) (.string s) (.slice A2 n2 c2) (kl s) rfl rfl (keyOf_s Hs.out) (.held (.slice A2 n2 c2)) [] rfl ?_
     intro w5 hown5 hgrow5
     have Hown5 := hide hown5
     have Hgrow5 := hide hgrow5
     clear hown5 hgrow5))
  have hs5 := Hgrow5.out.size
  have hkeep : ∀ q : Addr, q.block < w2.heap.size ∧ q.block ≠ b → w5.cell? q = w2.cell? q := fun q hq => World.cell?_of_block (Hgrow5.out.block _ hq.1 (fun e => by injection e with e; exact hq.2 e))
  have hsX := memB_iff.1 Hm.out
  have HB5 : Hid (Book w5 (fun g => g < w2.heap.size ∧ g ≠ b) b 6 (setF X s G)) := by
    have h := Book.set (w' := w5) D2.out D3.out (fun t ht => by obtain ⟨v, g1, g2⟩ := D4.out t ht; exact ⟨v, g1, g2.apart D1.out⟩) hsX ((HfG.out.apart D1.out).keep hkeep) hkeep (own_tight Hown5.out)
    obtain ⟨E, e1, e2⟩ := h
    refine ⟨E, (own_tight e1).mono ?_, e2⟩
    have h1 := (own_tight e1).size_le
    have h2 := e1.size_le
    rw [size_put D2.out, if_pos (by rw [D3.out s]; exact Hm.out)] at h2
    have h3 := D1.out.size_le
    omega
  have HW5 : Hid (Below w.heap.size w w5) := Hb2.out.grown Hgrow5.out (by omega) (fun q hq => by injection hq; omega)
  have hval : ∀ a ∈ X, nvB a.1 = true ∧ nsB a.2 = true ∧ a.1 ∉ a.2 := fun a ha => asB_acc Hv.out ha
  have hXs : ∀ a ∈ setF X s G, a.1.size ≤ maxLen := fun a ha => by
    have h1 : a.1 ∈ nms (setF X s G) := List.mem_map_of_mem ha
    rw [setF_nms] at h1
    obtain ⟨kk, F, hk⟩ := nms_mem h1
    exact nvB_small (hval _ (List.mem_of_getElem? hk)).1
  have hXf : ∀ a ∈ setF X s G, a.2.length ≤ 1000 := fun a ha => by
    unfold setF at ha
    obtain ⟨b, hb, rfl⟩ := List.mem_map.1 ha
    split
    · have := HG.out; show G.length ≤ 1000; omega
    · have := nsB_le (hval _ hb).2.1; omega
  have HXs := hide hXs
  have HXf := hide hXf
  have Hasc : Hid (Asc (nms (setF X s G))) := by show Asc _; rw [setF_nms]; exact asB_asc Hv.out
  have hl6 : (setF X s G).length ≤ 6 := by rw [setF_len]; exact asB_6 Hv.out
  have Hl6 := hide hl6
  clear hkeep hsX hval hXs hXf hl6
  refine (accts_ofN b (setF X s G) _ w5 HB5.out Hasc.out Hl6.out (fun g hg => by omega) HXs.out HXf.out).mono ?_
  rintro e w6 ⟨v6, rfl, hown6, hb6⟩
  go_wp2_with fail
  go_ret2
  exact ⟨v6, by rw [H.out]; rfl, by rw [H.out]; exact hown6.down (by have := Hb1.out.size; omega), HW5.out.trans (hb6.mono (by have := Hb1.out.size; omega))⟩

set_option maxHeartbeats 1000000 in
theorem i_followN (A : Option Addr) (n c : Nat) (X : List Acc) (who s : ByteArray) (w : World) (hX : Accs w w.heap.size A n X) (hS : ASmall X) (hn : n ≤ maxLen) (hs : s.size ≤ maxLen) (hw : who.size ≤ maxLen) :
    Calls Try.prog 13 #[.slice A n c, .string who, .string s] w fun e w' => Own2N w (followM X who s) e w' := by
  have HX := hide hX
  have HS := hide hS
  have Hn := hide hn
  have Hs := hide hs
  have Hw := hide hw
  clear hX hS hn hs hw
  by_cases e : who = s
  · subst e
    have H := hide (follow_3 X who)
    go_enter Try.func13, Try.ntmps13
    go_wp2_with fail
    go_ret2
    exact ⟨_, by rw [H.out]; rfl, by rw [H.out]; exact OwnN.nil _ _, Below.refl _ _⟩
  · have hne := beq_of_ne e
    have H := hide (chg_follow X e)
    clear e
    go_enter Try.func13, Try.ntmps13
    go_wp2_with fail
    refine (chgN_Put A n c X who s _ HX.out HS.out Hn.out Hs.out Hw.out).mono ?_
    rintro e w2 ⟨v2, rfl, hown2, hb2⟩
    rw [H.out] at hown2 ⊢
    go_wp2_with fail
    go_ret2
    exact ⟨v2, rfl, hown2, hb2⟩

set_option maxHeartbeats 1000000 in
theorem i_unfollowN (A : Option Addr) (n c : Nat) (X : List Acc) (who s : ByteArray) (w : World) (hX : Accs w w.heap.size A n X) (hS : ASmall X) (hn : n ≤ maxLen) (hs : s.size ≤ maxLen) (hw : who.size ≤ maxLen) :
    Calls Try.prog 18 #[.slice A n c, .string who, .string s] w fun e w' => Own2N w (unfollowM X who s) e w' := by
  have HX := hide hX
  have HS := hide hS
  have Hn := hide hn
  have Hs := hide hs
  have Hw := hide hw
  clear hX hS hn hs hw
  go_enter Try.func18, Try.ntmps18
  go_wp2_with fail
  refine (chgN_Drop A n c X who s _ HX.out HS.out Hn.out Hs.out Hw.out).mono ?_
  rintro e w2 ⟨v2, rfl, hown2, hb2⟩
  rw [chg_unfollow] at hown2 ⊢
  go_wp2_with fail
  go_ret2
  exact ⟨v2, rfl, hown2, hb2⟩
end Go.Proofs.Ytohodhogbdcdmab
