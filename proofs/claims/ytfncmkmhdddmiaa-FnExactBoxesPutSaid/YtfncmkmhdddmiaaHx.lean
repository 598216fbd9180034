/- takeGreatest, BoxPut of the program. -/
import Derived.Test.YtfncmkmhdddmiaaHt
import Derived.Deep.LoopGhost
set_option linter.unusedVariables false
set_option linter.unusedSimpArgs false
namespace Go.Proofs.Ytfncmkmhdddmiaa
open Go.RowKit Go.BigFrame

theorem take_step {base p g r c k c4 : Nat} {A4 : Option Addr} {x : Int} {T TI : TypeId} {ids R : List Int} {w w6 w9 : World} {v9 : Value} (hbs : base ≤ w.heap.size) (hB : Blk w6 p T #[.slice (some ⟨g, 0, none⟩) r c]) (hR : Row w6 base g r c R) (ho : w6.ownsRow base 3 1 (.slice A4 k c4) k (ids.map (Value.int .i64)))
    (hf : (Value.slice A4 k c4).ownBlock ≠ some p ∧ (Value.slice A4 k c4).ownBlock ≠ some g) (hb : Below base w w6) (own9 : w9.ownsRow base 3 1 v9 (k + 1) (ids.map (Value.int .i64) ++ [Value.int .i64 x])) (gr9 : (w6.alloc (.cells #[Value.int .i64 x] TI)).grownBy w9 (Value.slice A4 k c4).ownBlock)
    (at9 : v9.ownBlock = (Value.slice A4 k c4).ownBlock ∨ v9.ownBlock = some (w6.alloc (.cells #[Value.int .i64 x] TI)).heap.size) :
    ∃ A9 c9, v9 = .slice A9 (k + 1) c9 ∧ Blk w9 p T #[.slice (some ⟨g, 0, none⟩) r c] ∧ Row w9 base g r c R ∧ w9.ownsRow base 3 1 (.slice A9 (k + 1) c9) (k + 1) ((ids ++ [x]).map (Value.int .i64)) ∧ ((Value.slice A9 (k + 1) c9).ownBlock ≠ some p ∧ (Value.slice A9 (k + 1) c9).ownBlock ≠ some g) ∧ Below base w w9 := by
  have hs := hb.size
  have hpl := hB.lt
  have hgl := (hR.lt g rfl).2
  obtain ⟨A9, c9, rfl⟩ := own_slice own9
  refine ⟨A9, c9, rfl, (hB.alloc _).grown gr9 (fun e => hf.1 e.symm), World.ownsRow.kept (World.ownsRow.alloc hR _) gr9 (.inr (fun e => hf.2 e.symm)), ?_, ?_, Below.own (hb.alloc (by omega) _) gr9 (ho.alloc _) (Nat.le_refl _) (by simp; omega)⟩
  · rw [← ints_snoc]; exact own9
  · rcases at9 with e | e
    · rw [e]; exact hf
    · rw [e]; simp; omega

set_option maxHeartbeats 2000000 in
set_option maxRecDepth 100000 in
theorem take_any (base p : Nat) (S : List Int) (w0 w : World) (hH : HeapOf base p 81 S w0 w) (hS : Desc S) (hl : S.length ≤ 50) (hbp : base ≤ p) :
    Calls Try.prog 51 #[.pointer (some ⟨p, 0, none⟩), .int .i64 6] w fun e w' => ∃ v, e = .returned v ∧ OwnI base w' v (S.take 6) ∧ Below base w w' := by
  obtain ⟨g, m, c, M, hpg, hP, hml, hh, hB, hR, hb⟩ := hH
  obtain ⟨i1, hi1, hy0, hy1, hy2⟩ := info_parts' int_info
  have hU := Try.underlying23
  have hbs : base ≤ w.heap.size := by have := hB.lt; omega
  have hbg : base ≤ g := (hR.lt g rfl).1
  have HS := hide hS
  have HB := hide hB
  have HR := hide hR
  have HH := hide hh
  have HT := hide (Tk.start hP)
  have hm : m ≤ 50 := by have := hP.length_eq; omega
  clear hS hB hR hh hP hb hml
  go_enter Try.func51, Try.ntmps51
  go_wp2_with fail
  go_loopg [5] m (fun b u wr => ∃ (r k : Nat) (A4 : Option Addr) (c4 : Nat) (ids R : List Int), r ≤ b ∧ r ≤ 50 ∧ k ≤ 6 ∧ u = .slice A4 k c4 ∧ Hid (Tk S ids R) ∧ Hid (Hp R) ∧ Hid (Blk wr p 81 #[.slice (some ⟨g, 0, none⟩) r c]) ∧ Hid (Row wr base g r c R) ∧ Hid (wr.ownsRow base 3 1 (.slice A4 k c4) k (ids.map (Value.int .i64))) ∧ Hid ((Value.slice A4 k c4).ownBlock ≠ some p ∧ (Value.slice A4 k c4).ownBlock ≠ some g) ∧ Hid (Below base w wr))
  case atStart => exact ⟨m, 0, none, 0, [], M, Nat.le_refl _, hm, by omega, rfl, HT.out, HH.out, HB.out, HR.out, World.ownsRow_nil _ _ _ _, ⟨by simp [Value.ownBlock], by simp [Value.ownBlock]⟩, Below.refl _ _⟩
  case round =>
    obtain ⟨r, k, A4, c4, ids, R, hrb, hr, hk, rfl, ht, hh, hB, hR, hown, hfar, hbr⟩ := hrel
    have cp := hB.out.cell0
    have hkl : Hid (ids.length = k) := by have h1 := hown.out.1; rw [List.length_map] at h1; show _ = _; omega
    have hRl := hide hR.out.len
    by_cases hk6 : k < 6
    · rcases r with _ | r
      · have HE : Hid (ids = S.take 6) := by
          have h1 := ht.out.take HS.out
          have h2 := ht.out.len
          have h3 := hRl.out
          show ids = _
          rw [List.take_of_length_le (by have := hkl.out; omega)]
          rw [List.take_of_length_le (by omega)] at h1
          exact h1
        go_wp2_with fail
        refine (h_len _ 0 c wr (Nat.zero_le _)).mono ?_
        rintro e w' ⟨rfl, rfl⟩
        go_wp2_with fail
        go_ret
        exact ⟨_, rfl, ⟨_, _, _, rfl, by rw [← HE.out]; exact hown.out⟩, hbr.out⟩
      · go_wp2_with fail
        refine (h_len _ (r + 1) c wr (by unfold maxLen; omega)).mono ?_
        rintro e w' ⟨rfl, rfl⟩
        have hr1 : (0 : Int) < (r : Int) + 1 := by omega
        go_wp2_with fail
        refine (heap_pop base p g r c _ R wr hB.out hpg hR.out hh.out (by omega)).mono ?_
        rintro e w6 ⟨x, R', rfl, hT, hB6, hR6, h2⟩
        have HT6 := hide (ht.out.step HS.out hT)
        have HH6 := hide hT.heap
        have HB6 := hide hB6
        have HR6 := hide hR6
        have Own6 := hide (h2.own hown.out hfar.out.1 hfar.out.2)
        have hbsr := hbr.out.size
        have Hb6 : Hid (Below base w w6) := hbr.out.trans (h2.below hbp hbg (by omega))
        have hs6 := Hb6.out.size
        have has := as_int (.int .i64 x)
        clear hT hB6 hR6 h2
        go_wp2_with (
          (at_builtin
           refine wpList_append_rd _ rfl (.tmp 17) (.tmp 22) _ rfl base 3 i1 _ 1 8 hU hi1 hy0 hy1 hy2 rfl (by omega) (.slice A4 k c4) k (ids.map (Value.int .i64)) rfl (Own6.out.alloc _) (w6.heap.size + 1) (some ⟨w6.heap.size, 0, none⟩) 1 _ [Value.int .i64 x] rfl (Rd.one _ _ _) (one_ints [x]) (by unfold maxLen; omega) (by omega) (by simp; omega) ?_
           intro v9 w9 own9 gr9 at9
           obtain ⟨A9, c9, rfl, hB9, hR9, ho9, hf9, hb9⟩ := take_step hbs HB6.out HR6.out Own6.out hfar.out Hb6.out own9 gr9 at9
           have HB9 := hide hB9
           have HR9 := hide hR9
           have Own9 := hide ho9
           have HF9 := hide hf9
           have Hb9 := hide hb9
           clear gr9 at9 own9 hB9 hR9 ho9 hf9 hb9))
        go_roundg r
        case measure => omega
        case rel => exact ⟨r, k + 1, A9, c9, _, _, Nat.le_refl _, by omega, by omega, rfl, HT6.out, HH6.out, HB9.out, HR9.out, Own9.out, HF9.out, Hb9.out⟩
    · have HE : Hid (ids = S.take 6) := by
        have h1 := ht.out.take HS.out
        rw [show ids.length = 6 by have := hkl.out; omega] at h1
        exact h1
      have hk6' : ¬ ((k : Int) < 6) := by omega
      go_wp2_with fail
      go_ret
      exact ⟨_, rfl, ⟨_, _, _, rfl, by rw [← HE.out]; exact hown.out⟩, hbr.out⟩

set_option maxHeartbeats 2000000 in
set_option maxRecDepth 100000 in
theorem i_BoxPut (A : Option Addr) (n c : Nat) (L : List Int) (id : Int) (w : World) (hX : Ints w w.heap.size A n L) (hn : n ≤ maxLen) :
    Calls Try.prog 20 #[.slice A n c, .int .i64 id] w fun e w' => Own2I w (bPutM L id) e w' := by
  have hl := hide hX.1
  have HX := hide hX
  have HN := hide hn
  clear hX hn
  go_enter Try.func20, Try.ntmps20
  go_wp2_with fail
  refine (i_ids A n c L _ HX.out HN.out).mono ?_
  rintro e w1 ⟨rfl, hb1⟩
  have Hb1 := hide hb1
  have HX1 := hide (HX.out.on hb1)
  have hs1 := hb1.size
  clear hb1
  cases h1 : idsB L
  · have H : Hid (bPutM L id = none) := bPutM_1 h1
    clear h1
    go_wp2_with fail
    go_ret2
    exact ⟨_, by rw [H.out]; rfl, by rw [H.out]; exact OwnI.nil _ _, Hb1.out⟩
  have hn6 : n ≤ 6 := by have h := idsB_6 h1; have := hl.out; omega
  go_wp2_with fail
  refine (p_id id _).mono ?_
  rintro e w' ⟨rfl, rfl⟩
  cases h2 : inR id
  · have H : Hid (bPutM L id = none) := bPutM_2 h2
    clear h1 h2
    go_wp2_with fail
    go_ret2
    exact ⟨_, by rw [H.out]; rfl, by rw [H.out]; exact OwnI.nil _ _, Hb1.out⟩
  have H : Hid (bPutM L id = some (bput L id)) := bPutM_t h1 h2
  have HD := hide (idsB_desc h1)
  clear h1 h2
  go_wp2_with fail
  refine (new_any A n c L _ HX1.out (by omega)).mono ?_
  rintro e w3 ⟨p, A3, m3, c3, rfl, hbp, hm3, hB3, own3, hfar, hb3⟩
  have HB3 := hide hB3
  have Own3 := hide own3
  have Hfar := hide hfar
  have Hb3 := hide hb3
  have HX3 := hide (HX1.out.on hb3)
  have hs3 := hb3.size
  clear hB3 own3 hfar hb3
  have hput : bput L id = (insD id L).take 6 := bput_eq HD.out id
  have hlen := (insD_len id L).2
  have hlen6 : (insD id L).length ≤ 50 := by have := hl.out; omega
  have Hput := hide hput
  have HD2 := hide (insD_desc (id := id) HD.out)
  clear hput hlen
  cases hc : decide (id ∈ L)
  · have HC : Hid (decide (id ∈ L) = false) := hc
    have hnew := hide (insD_new HD.out (by simpa using hc))
    clear hc
    go_wp2_with fail
    refine (hasI A n c L id false _ HX3.out HN.out HC.out).mono ?_
    rintro e w' ⟨rfl, rfl⟩
    go_wp2_with fail
    refine (heap_push w1.heap.size p m3 c3 A3 id _ L w3 HB3.out Own3.out hbp Hfar.out hm3 (Hp.of_desc HD.out)).mono ?_
    rintro e w4 ⟨rfl, g, m, c', M, hpg, hP, hml, hh, hB4, hR4, hb4⟩
    have HO : Hid (HeapOf w1.heap.size p 81 (insD id L) w3 w4) := ⟨g, m, c', M, hpg, hP.trans hnew.out, hml, hh, hB4, hR4, hb4⟩
    have Hb4 := hide hb4
    clear hpg hP hml hh hB4 hR4 hb4
    go_wp2_with fail
    refine (take_any w1.heap.size p (insD id L) w3 w4 HO.out HD2.out hlen6 hbp).mono ?_
    rintro e w5 ⟨v, rfl, ⟨A5, n5, c5, rfl, own5⟩, hb5⟩
    have Own5 := hide own5
    have Hb5 := hide hb5
    clear own5 hb5
    go_wp2_with fail
    go_ret2
    exact ⟨_, by rw [H.out]; rfl, by rw [H.out, Hput.out]; exact ⟨_, _, _, rfl, own_base Own5.out hs1⟩, Hb1.out.trans ((Hb3.out.trans (Hb4.out.trans Hb5.out)).mono hs1)⟩
  · have HC : Hid (decide (id ∈ L) = true) := hc
    have hmem : id ∈ L := by simpa using hc
    have hold := hide (insD_old HD.out hmem)
    have hlen0 : 0 < L.length := List.length_pos_of_mem hmem
    have hO : HeapOf w1.heap.size p 81 (insD id L) w1 w3 := by
      have hm : L.length = m3 := by have h1 := Own3.out.1; rw [List.length_map] at h1; omega
      obtain ⟨g, c', hv, hg, hgl⟩ := Own3.out.form (by omega)
      have hB := HB3.out
      have hR := Own3.out
      rw [hv] at hB hR
      refine ⟨g, m3, c', L, ?_, by rw [← hold.out], hm, Hp.of_desc HD.out, hB, hR, Hb3.out⟩
      intro e
      exact Hfar.out (by rw [hv, e]; rfl)
    have HO := hide hO
    clear hc hmem hlen0 hO
    go_wp2_with fail
    refine (hasI A n c L id true _ HX3.out HN.out HC.out).mono ?_
    rintro e w' ⟨rfl, rfl⟩
    go_wp2_with fail
    refine (take_any w1.heap.size p (insD id L) w1 w3 HO.out HD2.out hlen6 hbp).mono ?_
    rintro e w5 ⟨v, rfl, ⟨A5, n5, c5, rfl, own5⟩, hb5⟩
    have Own5 := hide own5
    have Hb5 := hide hb5
    clear own5 hb5
    go_wp2_with fail
    go_ret2
    exact ⟨_, by rw [H.out]; rfl, by rw [H.out, Hput.out]; exact ⟨_, _, _, rfl, own_base Own5.out hs1⟩, Hb1.out.trans ((Hb3.out.trans Hb5.out).mono hs1)⟩
end Go.Proofs.Ytfncmkmhdddmiaa
