/- PostsAdd of both. -/
import Derived.Test.YtfncmkmhdddmiabPsp
set_option linter.unusedVariables false
set_option linter.unusedSimpArgs false
namespace Go.Proofs.Ytfncmkmhdddmiab
open Go.RowKit

theorem psmall_app {X : List Pst} {i : Int} {s : ByteArray} (h : PSmall X) (hs : s.size ≤ maxLen) : PSmall (X ++ [(i, s)]) := fun a ha => by
  rcases List.mem_append.1 ha with h1 | h1
  · exact h a h1
  · rw [List.mem_singleton.1 h1]; exact hs

set_option maxHeartbeats 2000000 in
theorem i_padd (A : Option Addr) (n c : Nat) (X : List Pst) (s : ByteArray) (w : World) (hX : Psts w w.heap.size A n X) (hS : PSmall X) (hn : n ≤ maxLen) (hs : s.size ≤ maxLen) :
    Calls Try.prog 17 #[.slice A n c, .string s] w fun e w' => Own2P w X (pAddM X s) e w' := by
  have HX := hide hX
  have HS := hide hS
  have Hs := hide hs
  have HSY := hide (psmall_app (i := nextI X) hS hs)
  obtain ⟨b, hb⟩ : ∃ b, psB X = b := ⟨_, rfl⟩
  have Hb := hide hb
  clear hX hS hb hs
  go_enter Try.func17, Try.ntmps17
  go_wp2_with fail
  refine (i_link A n c X _ HX.out HS.out hn b Hb.out).mono ?_
  rintro e w1 ⟨v, rfl, hb1, hch⟩
  have Hb1 := hide hb1
  have Hch := hide hch
  clear hb1 hch
  cases b
  · have H : Hid (pAddM X s = none) := pAdd_1 Hb.out
    go_wp2_with fail
    go_ret3
    refine ⟨_, by rw [H.out]; rfl, ?_, Hb1.out⟩
    rw [H.out]
    exact OwnP.nil _ _
  have HC : Hid (Chain w1 (Mine w.heap.size w1) v X.reverse) := Hch.out rfl
  obtain ⟨o, rfl⟩ := HC.out.ptr
  have h12 := psB_12 Hb.out
  have hs1 := Hb1.out.size
  clear Hch
  obtain ⟨b2, hb2⟩ : ∃ b, nvB s = b := ⟨_, rfl⟩
  have HB2 := hide hb2
  clear hb2
  go_wp2_with fail
  refine (i_NV HB2.out _ Hs.out).mono ?_
  rintro e w' ⟨rfl, rfl⟩
  cases b2
  · have H : Hid (pAddM X s = none) := pAdd_3 HB2.out
    go_wp2_with fail
    go_ret3
    refine ⟨_, by rw [H.out]; rfl, ?_, Hb1.out⟩
    rw [H.out]
    exact OwnP.nil _ _
  go_wp2_with fail
  refine (i_next (.pointer o) X _ _ HC.out Hb.out).mono ?_
  rintro e w' ⟨rfl, rfl⟩
  have hch2 := Chain.cons (a := (nextI X, s)) 60 HC.out (fun g hg => hg.2) (ok' := fun g => g < (w1.alloc (.cells #[Value.int .i64 (nextI X), Value.string s, .pointer o] 60)).heap.size) (fun g hg => by have := hg.2; simp; omega) (by simp)
  have HC2 := hide hch2
  have hba := (Below.refl w1.heap.size w1).alloc (Nat.le_refl _) (.cells #[Value.int .i64 (nextI X), Value.string s, .pointer o] 60)
  have hn0 : (w1.alloc (.cells #[Value.int .i64 (nextI X), Value.string s, .pointer o] 60)).cell? ⟨w1.heap.size, 0, none⟩ = some (.int .i64 (nextI X)) := (Blk.new _ _ _).cell 0
  have Hba := hide hba
  have Hn0 := hide hn0
  have hsa : w1.heap.size < (w1.alloc (.cells #[Value.int .i64 (nextI X), Value.string s, .pointer o] 60)).heap.size := by simp
  clear hch2 hba hn0
  go_wp2_with fail
  generalize w1.alloc (.cells #[Value.int .i64 (nextI X), Value.string s, .pointer o] 60) = w2 at *
  refine (i_posts _ _ _ HC2.out (by simp; omega) (by simp)).mono ?_
  rintro e w3 ⟨u, rfl, hown3, hb3⟩
  have hr : ((nextI X, s) :: X.reverse).reverse = X ++ [(nextI X, s)] := by simp
  rw [hr] at hown3
  clear hr
  obtain ⟨A3, n3, c3, rfl, hl3, hnc3, hc3, hst3⟩ := hown3.psts
  have hn3 : n3 ≤ maxLen := Nat.le_trans hnc3 hc3
  have Hown3 := hide hown3
  have Hst3 := hide hst3
  have Hb3 := hide hb3
  have hs3 := hb3.size
  clear hown3 hst3 hb3
  go_wp2_with fail
  refine (i_Ps A3 n3 c3 _ _ Hst3.out HSY.out hn3).mono ?_
  rintro e w4 ⟨rfl, hb4⟩
  have hBelow : Below w.heap.size w w4 := Hb1.out.trans ((Hba.out.mono hs1).trans ((Hb3.out.mono (by omega)).trans (hb4.mono (by omega))))
  have HB := hide hBelow
  have hn4 : w4.cell? ⟨w1.heap.size, 0, none⟩ = some (.int .i64 (nextI X)) := (hb4.cell (p := ⟨w1.heap.size, 0, none⟩) (by show w1.heap.size < _; omega)).trans ((Hb3.out.cell (p := ⟨w1.heap.size, 0, none⟩) hsa).trans Hn0.out)
  have Hown4 := hide (Hown3.out.below hb4)
  clear hBelow hb4
  cases hv2 : psB (X ++ [(nextI X, s)])
  · have H : Hid (pAddM X s = none) := pAdd_2 hv2
    clear hv2
    go_wp2_with fail
    go_ret3
    refine ⟨_, by rw [H.out]; rfl, ?_, HB.out⟩
    rw [H.out]
    exact OwnP.nil _ _
  · have H : Hid (pAddM X s = some (X ++ [(nextI X, s)])) := pAdd_t Hb.out hv2
    clear hv2
    go_wp2_with fail
    go_region
    all_goals
      go_wp2_with fail
      go_ret3
      refine ⟨_, by rw [H.out]; rfl, ?_, (below_drewN HB.out 1)⟩
      rw [H.out]
      obtain ⟨A5, n5, c5, e5, h5⟩ := Hown4.out
      exact ⟨A5, n5, c5, e5, own_base h5 (by omega)⟩

set_option maxHeartbeats 800000 in
theorem s_padd (A : Option Addr) (n c : Nat) (X : List Pst) (s : ByteArray) (w : World) (hX : Psts w w.heap.size A n X) (hS : PSmall X) (hn : n ≤ maxLen) (hs : s.size ≤ maxLen) (hn2 : n ≤ 1048576) :
    Calls Try.prog 18 #[.slice A n c, .string s] w fun e w' => Own2P w X (pAddM X s) e w' := by
  obtain ⟨i1, hi1, hy0, hy1, hy2⟩ := info_parts' post_info
  have hU := Try.underlying23
  have hl := hide hX.1
  have HX := hide hX
  have HS := hide hS
  have Hs := hide hs
  have HSY0 := hide (psmall_app (i := nextI X) hS hs)
  obtain ⟨b, hb⟩ : ∃ b, psB X = b := ⟨_, rfl⟩
  have Hb := hide hb
  have b1 : 0 + n ≤ maxLen := by unfold maxLen; omega
  have b2 : (0 + n) * 24 ≤ 140737488355328 := by omega
  have b3 : 0 + n + 1 ≤ maxLen := by unfold maxLen; omega
  have b4 : (0 + n + 1) * 24 ≤ 140737488355328 := by omega
  clear hX hS hb hs
  go_enter Try.func18, Try.ntmps18
  go_wp2_with fail
  refine (s_Ps A n c X _ HX.out HS.out hn).mono ?_
  rintro e w1 ⟨rfl, hb1⟩
  rw [Hb.out]
  have Hb1 := hide hb1
  have hs1 := hb1.size
  clear hb1
  cases b
  · have H : Hid (pAddM X s = none) := pAdd_1 Hb.out
    go_wp2_with fail
    go_ret3
    refine ⟨_, by rw [H.out]; rfl, ?_, Hb1.out.alloc hs1 _⟩
    rw [H.out]
    exact ⟨_, 0, 0, rfl, World.ownsRow_lit w1 #[] 0 hs1 (Nat.zero_le _) rfl⟩
  have own0 : (w1.alloc (.cells #[] 31)).ownsRow w.heap.size 31 2 (.slice (some ⟨w1.heap.size, 0, none⟩) 0 0) 0 (pcells []) := World.ownsRow_lit w1 #[] 0 hs1 (Nat.zero_le _) rfl
  have Own0 := hide own0
  have Rdx := hide (Psts.rd (((HX.out.below Hb1.out).more hs1).alloc (Nat.le_refl _) (.cells #[] 31)))
  clear own0
  by_cases h0 : n = 0
  · have hXn : X = [] := List.eq_nil_of_length_eq_zero (by have := hl.out; omega)
    have HI : Hid (nextI X = 1) := by rw [hXn]; exact nextI_nil
    have hE : Hid ((pcells [] ++ pcells X) ++ [Value.int .i64 1, Value.string s] = pcells (X ++ [(1, s)])) := by rw [pcells_app]; rfl
    have HSY := HSY0
    rw [HI.out] at HSY
    have hn0 : ¬ ((0 : Int) < (n : Int)) := by omega
    have Hn0 := hide h0
    clear hXn h0
    go_wp2_with (first
      | (at_builtin
         refine wpList_append_rd _ rfl (.tmp 24) (.tmp 25) _ rfl w.heap.size 31 i1 _ 2 24 hU hi1 hy0 hy1 hy2 rfl (by omega) (.slice (some ⟨w1.heap.size, 0, none⟩) 0 0) 0 (pcells []) rfl (Own0.out) w1.heap.size A n c (pcells X) rfl (Rdx.out) (pcells_one X) b1 b2 (by simp; omega) ?_
         intro v3 w3 own3 gr3 at3
         have Hb3 : Hid (Below w.heap.size w w3) := Below.own (Hb1.out.alloc hs1 _) gr3 Own0.out (Nat.le_refl _) (by simp; omega)
         have Own3 := hide own3
         have hs3 := Hb3.out.size
         clear gr3 at3 own3)
      | (at_builtin
         go_must (refine wpList_append_rd _ rfl (.tmp 26) (.tmp 30) _ rfl w.heap.size 31 i1 _ 2 24 hU hi1 hy0 hy1 hy2 rfl (by omega) v3 (0 + n) (pcells [] ++ pcells X) rfl (Own3.out.alloc _) (w3.heap.size + 1) (some ⟨w3.heap.size, 0, none⟩) 1 _ [Value.int .i64 (1), Value.string s] rfl (rd_two _ _ _ _) (by intro u hu; simp at hu; rcases hu with rfl | rfl <;> rfl) b3 b4 (by simp; omega) ?_)
         intro v4 w4 own4 gr4 at4
         have Hb4 : Hid (Below w.heap.size w w4) := Below.own (Hb3.out.alloc hs3 _) gr4 (Own3.out.alloc _) (Nat.le_refl _) (by simp; omega)
         rw [hE.out, Nat.zero_add] at own4
         obtain ⟨A4, c4, e4⟩ := own_slice own4
         subst e4
         have Own4 := hide own4
         clear gr4 at4 own4))
    have hs4 := Hb4.out.size
    have ST4 := hide (Psts.of_own Own4.out)
    refine (s_Ps A4 (n + 1) c4 _ _ ST4.out HSY.out (by unfold maxLen; omega)).mono ?_
    rintro e w5 ⟨rfl, hb5⟩
    have Hb5 := hide (Hb4.out.trans (hb5.mono hs4))
    have Own5 := hide (Own4.out.kept (grown_of_below hb5 (row := none)) (by cases (Value.slice A4 (n + 1) c4).ownBlock <;> simp))
    have hs5 := Hb5.out.size
    clear hb5
    cases hv2 : psB (X ++ [(nextI X, s)])
    · have H : Hid (pAddM X s = none) := pAdd_2 hv2
      rw [HI.out] at hv2
      rw [hv2]
      clear hv2
      go_wp2_with fail
      go_ret3
      refine ⟨_, by rw [H.out]; rfl, ?_, Hb5.out.alloc hs5 _⟩
      rw [H.out]
      exact ⟨_, 0, 0, rfl, World.ownsRow_lit w5 #[] 0 hs5 (Nat.zero_le _) rfl⟩
    · have H : Hid (pAddM X s = some (X ++ [(nextI X, s)])) := pAdd_t Hb.out hv2
      rw [HI.out] at hv2
      rw [hv2]
      clear hv2
      go_wp2_with fail
      go_ret3
      refine ⟨_, by rw [H.out, HI.out]; rfl, ?_, Hb5.out⟩
      rw [H.out, HI.out]
      exact ⟨_, _, _, rfl, Own5.out⟩
  · obtain ⟨a, ha, hai⟩ := last_at (X := X) (by have := hl.out; omega)
    have hxn : X.length - 1 = n - 1 := by have := hl.out; omega
    rw [hxn] at ha
    have hbd := psB_pst Hb.out (List.mem_of_getElem? ha)
    have hbd1 := hbd.1
    have hbd2 := hbd.2.1
    obtain ⟨j, hj⟩ : ∃ j, j = n - 1 := ⟨_, rfl⟩
    have hji : (n : Int) - 1 = (j : Int) := by omega
    have hjn : j < n := by omega
    rw [← hj] at ha
    have HI : Hid (nextI X = a.1 + 1) := hai
    obtain ⟨g, off, rfl, hg, hc0, hc1⟩ := (HX.out.below Hb1.out).at' ha
    have hE : Hid ((pcells [] ++ pcells X) ++ [Value.int .i64 (a.1 + 1), Value.string s] = pcells (X ++ [(a.1 + 1, s)])) := by rw [pcells_app]; rfl
    have HSY := HSY0
    rw [HI.out] at HSY
    have hn0 : (0 : Int) < (n : Int) := by omega
    clear hai ha hbd hj hc1 h0 hxn
    go_wp2_with (first
      | (at_builtin
         refine wpList_append_rd _ rfl (.tmp 24) (.tmp 25) _ rfl w.heap.size 31 i1 _ 2 24 hU hi1 hy0 hy1 hy2 rfl (by omega) (.slice (some ⟨w1.heap.size, 0, none⟩) 0 0) 0 (pcells []) rfl (Own0.out) w1.heap.size (some ⟨g, off, none⟩) n c (pcells X) rfl (Rdx.out) (pcells_one X) b1 b2 (by simp; omega) ?_
         intro v3 w3 own3 gr3 at3
         have Hb3 : Hid (Below w.heap.size w w3) := Below.own (Hb1.out.alloc hs1 _) gr3 Own0.out (Nat.le_refl _) (by simp; omega)
         have Own3 := hide own3
         have hs3 := Hb3.out.size
         clear gr3 at3 own3)
      | (at_builtin
         go_must (refine wpList_append_rd _ rfl (.tmp 26) (.tmp 30) _ rfl w.heap.size 31 i1 _ 2 24 hU hi1 hy0 hy1 hy2 rfl (by omega) v3 (0 + n) (pcells [] ++ pcells X) rfl (Own3.out.alloc _) (w3.heap.size + 1) (some ⟨w3.heap.size, 0, none⟩) 1 _ [Value.int .i64 (a.1 + 1), Value.string s] rfl (rd_two _ _ _ _) (by intro u hu; simp at hu; rcases hu with rfl | rfl <;> rfl) b3 b4 (by simp; omega) ?_)
         intro v4 w4 own4 gr4 at4
         have Hb4 : Hid (Below w.heap.size w w4) := Below.own (Hb3.out.alloc hs3 _) gr4 (Own3.out.alloc _) (Nat.le_refl _) (by simp; omega)
         rw [hE.out, Nat.zero_add] at own4
         obtain ⟨A4, c4, e4⟩ := own_slice own4
         subst e4
         have Own4 := hide own4
         clear gr4 at4 own4))
    have hs4 := Hb4.out.size
    have ST4 := hide (Psts.of_own Own4.out)
    refine (s_Ps A4 (n + 1) c4 _ _ ST4.out HSY.out (by unfold maxLen; omega)).mono ?_
    rintro e w5 ⟨rfl, hb5⟩
    have Hb5 := hide (Hb4.out.trans (hb5.mono hs4))
    have Own5 := hide (Own4.out.kept (grown_of_below hb5 (row := none)) (by cases (Value.slice A4 (n + 1) c4).ownBlock <;> simp))
    have hs5 := Hb5.out.size
    clear hb5
    cases hv2 : psB (X ++ [(nextI X, s)])
    · have H : Hid (pAddM X s = none) := pAdd_2 hv2
      rw [HI.out] at hv2
      rw [hv2]
      clear hv2
      go_wp2_with fail
      go_ret3
      refine ⟨_, by rw [H.out]; rfl, ?_, Hb5.out.alloc hs5 _⟩
      rw [H.out]
      exact ⟨_, 0, 0, rfl, World.ownsRow_lit w5 #[] 0 hs5 (Nat.zero_le _) rfl⟩
    · have H : Hid (pAddM X s = some (X ++ [(nextI X, s)])) := pAdd_t Hb.out hv2
      rw [HI.out] at hv2
      rw [hv2]
      clear hv2
      go_wp2_with fail
      go_ret3
      refine ⟨_, by rw [H.out, HI.out]; rfl, ?_, Hb5.out⟩
      rw [H.out, HI.out]
      exact ⟨_, _, _, rfl, Own5.out⟩
end Go.Proofs.Ytfncmkmhdddmiab
