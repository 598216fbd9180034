/- RecordText of the program. -/
import Derived.Test.YtmofnmklodmkmaaGreatDoorIrk
import Derived.Test.YtmofnmklodmkmaaGreatDoorLbs
set_option linter.unusedVariables false
set_option linter.unusedSimpArgs false
namespace Go.Proofs.YtmofnmklodmkmaaGreatDoor
open Go.RowKit Go.BigFrame

theorem Later.itoa {B : Nat} {W : World} (z : Later B W) (n : Nat) (h : n < 1000) (hB : B ≤ W.heap.size) (hT : ∀ z : Later B W, Tw z.it) :
    Calls Tryz.prog 36 #[.int .i64 (n : Int)] z.it fun e w'' => e = .returned (.string (decB n)) ∧ ∃ z' : Later B W, w'' = z'.it :=
  Later.call ((itoa_call n h z.it (hT z)).mono fun e w' ⟨h1, h2⟩ => ⟨h1, h2.mono (by have := z.below.size; omega)⟩)
theorem tw_later {w : World} {o : Obj} (hT : Tw w) : ∀ z : Later (w.heap.size + 1) (w.alloc o), Tw z.it := fun z =>
  hT.on (((Below.refl w.heap.size w).alloc (Nat.le_refl _) o).trans (z.below.mono (by omega)))
theorem cells2 {w : World} {a b : Value} {T : TypeId} : ∀ z : Later (w.heap.size + 1) (w.alloc (.cells #[a, b] T)), z.it.cell? ⟨w.heap.size, 0, none⟩ = some a ∧ z.it.cell? ⟨w.heap.size, 1, none⟩ = some b := fun z =>
  ⟨(z.cell (Nat.lt_succ_self _)).trans ((Blk.new w T _).cell 0), (z.cell (Nat.lt_succ_self _)).trans ((Blk.new w T _).cell 1)⟩

set_option maxHeartbeats 2000000 in
set_option maxRecDepth 100000 in
theorem k_txt1 (m : Nat) (s : ByteArray) (w : World) (hm : m < 1000) (hs4 : s.size ≤ 4) (hT : Tw w) :
    Calls Tryz.prog 37 #[kP (m : Int) s] w fun e w' => e = .returned (.string (tb (bodL (1, (m : Int), 0, s, ⟨#[]⟩)))) ∧ Below w.heap.size w w' := by
  have hd3 := decB_size m
  have H : Hid (tb (bodL (1, (m : Int), 0, s, ⟨#[]⟩)) = ⟨#[112, 111, 115, 116, 32]⟩ ++ decB m ++ ⟨#[32]⟩ ++ s) := by
    apply ba_ext
    rw [tb_data]
    simp [bodL, wds, wPost, decB, tb_data]
  have hb := hide ((Below.refl w.heap.size w).alloc (Nat.le_refl _) (.cells #[.int .i64 (m : Int), .string s] 96))
  have HTz := hide (tw_later (o := .cells #[.int .i64 (m : Int), .string s] 96) hT)
  have hz := @cells2 w (.int .i64 (m : Int)) (.string s) 96
  have hz0 := fun z => (hz z).1
  have hz1 := fun z => (hz z).2
  have a0 := as_pp
  clear hz hT
  go_enter Tryz.func37, Tryz.ntmps37
  go_wp2_with fail
  refine wp_region_later (B := w.heap.size + 1) (by kernel_rfl) (by kernel_rfl) ?_
  repeat (go_big_quiet_step ((first | (go_at_call 36; exact Later.itoa _ _ hm (by simp) HTz.out))))
  refine wpQuiet_nil ?_
  intro _ hw'
  obtain ⟨⟨w5, hb5⟩, hw''⟩ := hw'
  subst hw''
  have Hb5 := hide hb5
  clear hb5
  go_wp2_with fail
  go_ret
  exact ⟨by rw [H.out]; rfl, hb.out.trans (Hb5.out.mono (Nat.le_succ _))⟩

set_option maxHeartbeats 2000000 in
set_option maxRecDepth 100000 in
theorem k_txt2 (m n : Nat) (w : World) (hm : m < 1000) (hn : n < 1000) (hT : Tw w) :
    Calls Tryz.prog 37 #[kM (m : Int) (n : Int)] w fun e w' => e = .returned (.string (tb (bodL (2, (m : Int), (n : Int), ⟨#[]⟩, ⟨#[]⟩)))) ∧ Below w.heap.size w w' := by
  have hd3 := decB_size m
  have hn3 := decB_size n
  have H : Hid (tb (bodL (2, (m : Int), (n : Int), ⟨#[]⟩, ⟨#[]⟩)) = ⟨#[109, 111, 118, 101, 100, 32]⟩ ++ decB m ++ ⟨#[32]⟩ ++ decB n) := by
    apply ba_ext
    rw [tb_data]
    simp [bodL, wds, wMoved, decB, tb_data]
  have hb := hide ((Below.refl w.heap.size w).alloc (Nat.le_refl _) (.cells #[.int .i64 (m : Int), .int .i64 (n : Int)] 98))
  have HTz := hide (tw_later (o := .cells #[.int .i64 (m : Int), .int .i64 (n : Int)] 98) hT)
  have hz := @cells2 w (.int .i64 (m : Int)) (.int .i64 (n : Int)) 98
  have hz0 := fun z => (hz z).1
  have hz1 := fun z => (hz z).2
  have a0 := as_mp
  have a1 := as_mm
  clear hz hT
  go_enter Tryz.func37, Tryz.ntmps37
  go_wp2_with fail
  refine wp_region_later (B := w.heap.size + 1) (by kernel_rfl) (by kernel_rfl) ?_
  repeat (go_big_quiet_step ((first | (go_at_call 36; with_reducible exact Later.itoa _ _ hm (by simp) HTz.out) | (go_at_call 36; with_reducible exact Later.itoa _ _ hn (by simp) HTz.out))))
  refine wpQuiet_nil ?_
  intro _ hw'
  obtain ⟨⟨w5, hb5⟩, hw''⟩ := hw'
  subst hw''
  have Hb5 := hide hb5
  clear hb5
  go_wp2_with fail
  go_ret
  exact ⟨by rw [H.out]; rfl, hb.out.trans (Hb5.out.mono (Nat.le_succ _))⟩

set_option maxHeartbeats 2000000 in
set_option maxRecDepth 100000 in
theorem k_txt3 (s t : ByteArray) (w : World) (hs4 : s.size ≤ 4) (ht4 : t.size ≤ 4) :
    Calls Tryz.prog 37 #[kF s t] w fun e w' => e = .returned (.string (tb (bodL (3, 0, 0, s, t)))) ∧ Below w.heap.size w w' := by
  have H : Hid (tb (bodL (3, 0, 0, s, t)) = ⟨#[102, 111, 108, 108, 111, 119, 32]⟩ ++ s ++ ⟨#[32]⟩ ++ t) := by
    apply ba_ext
    rw [tb_data]
    simp [bodL, wds, wFollow]
  have hb := hide ((Below.refl w.heap.size w).alloc (Nat.le_refl _) (.cells #[.string s, .string t] 102))
  have a0 := as_fp
  have a1 := as_fm
  have a2 := as_ff
  go_enter Tryz.func37, Tryz.ntmps37
  go_wp2_with fail
  go_ret
  exact ⟨by rw [H.out]; rfl, hb.out⟩
set_option maxHeartbeats 2000000 in
set_option maxRecDepth 100000 in
theorem k_txt4 (s t : ByteArray) (w : World) (hs4 : s.size ≤ 4) (ht4 : t.size ≤ 4) :
    Calls Tryz.prog 37 #[kU s t] w fun e w' => e = .returned (.string (tb (bodL (4, 0, 0, s, t)))) ∧ Below w.heap.size w w' := by
  have H : Hid (tb (bodL (4, 0, 0, s, t)) = ⟨#[117, 110, 102, 111, 108, 108, 111, 119, 32]⟩ ++ s ++ ⟨#[32]⟩ ++ t) := by
    apply ba_ext
    rw [tb_data]
    simp [bodL, wds, wUnf]
  have hb := hide ((Below.refl w.heap.size w).alloc (Nat.le_refl _) (.cells #[.string s, .string t] 103))
  have a0 := as_up
  have a1 := as_um
  have a2 := as_uf
  have a3 := as_uu
  go_enter Tryz.func37, Tryz.ntmps37
  go_wp2_with fail
  go_ret
  exact ⟨by rw [H.out]; rfl, hb.out⟩

theorem k_txt (r : Rec) (w : World) (h : reB r = true) (hT : Tw w) :
    Calls Tryz.prog 37 #[kV r] w fun e w' => e = .returned (.string (tb (bodL r))) ∧ Below w.heap.size w w' := by
  rcases re_ways h with ⟨i, s, rfl, hi, hs⟩ | ⟨i, d, rfl, hi, hd⟩ | ⟨s, t, rfl | rfl, hs, ht, _⟩
  · obtain ⟨m, rfl⟩ : ∃ m : Nat, i = (m : Int) := ⟨i.toNat, by have := inR_iff.1 hi; omega⟩
    exact k_txt1 m s w (by have := inR_iff.1 hi; omega) (nvB_size hs).2 hT
  · obtain ⟨m, rfl⟩ : ∃ m : Nat, i = (m : Int) := ⟨i.toNat, by have := inR_iff.1 hi; omega⟩
    obtain ⟨n, rfl⟩ : ∃ n : Nat, d = (n : Int) := ⟨d.toNat, by have := inT_iff.1 hd; omega⟩
    exact k_txt2 m n w (by have := inR_iff.1 hi; omega) (by have := inT_iff.1 hd; omega) hT
  · exact k_txt3 s t w (nvB_size hs).2 (nvB_size ht).2
  · exact k_txt4 s t w (nvB_size hs).2 (nvB_size ht).2

set_option maxHeartbeats 1000000 in
set_option maxRecDepth 100000 in
theorem t_check (s : ByteArray) (w : World) (hs : s.size ≤ maxLen) :
    Calls Tryz.prog 38 #[.string s] w fun e w' => e = .returned (.int .i64 (chk s.data.toList : Nat)) ∧ w = w' := by
  unfold maxLen at hs
  go_enter Tryz.func38, Tryz.ntmps38
  go_wp2_with fail
  go_loop [3, 4, 7] (fun n _ i => ∃ k x : Nat, k ≤ s.size ∧ i = .int .i64 k ∧ n = .int .i64 x ∧ x < 997 ∧ Hid (chk (s.data.toList.take k) = x)) (fun _ _ i => s.size - (intOf i).toNat)
  case atStart => exact ⟨0, 17, Nat.zero_le _, rfl, rfl, by omega, rfl⟩
  case round =>
    obtain ⟨k, x, hk, rfl, rfl, hx, hc⟩ := hrel
    by_cases hlt : k < s.size
    · have hts : Hid (s.data.toList.take (k + 1) = s.data.toList.take k ++ [s[k]]) := by
        show _ = _
        rw [List.take_succ_eq_append_getElem (by simpa using hlt)]; rfl
      have H : Hid (chk (s.data.toList.take (k + 1)) = (263 * x + s[k].toNat) % 997) := by show _ = _; rw [hts.out, chk_snoc, hc.out]
      have hlt2 : (263 * x + s[k].toNat) % 997 < 997 := Nat.mod_lt _ (by omega)
      have hc8 : s[k].toNat < 256 := s[k].toNat_lt
      go_wp2_with fail
      go_round
      case rel => exact ⟨k + 1, (263 * x + s[k].toNat) % 997, by omega, by go_num, by go_num, hlt2, H⟩
      case measure => simp [intOf]; omega
    · have H : Hid (chk s.data.toList = x) := by have h := hc.out; rw [List.take_of_length_le (by simp; omega)] at h; exact h
      go_wp2_with fail
      go_ret
      exact ⟨by rw [H.out]; rfl, rfl⟩

set_option maxHeartbeats 2000000 in
set_option maxRecDepth 100000 in
theorem i_RT (p k i d : Int) (s t : ByteArray) (w : World) (hs : s.size ≤ maxLen) (ht : t.size ≤ maxLen) (hT : Tw w) :
    Calls Tryz.prog 18 #[.int .i64 p, .agg #[.int .i64 k, .int .i64 i, .int .i64 d, .string s, .string t]] w fun e w' => e = .returned (.string (rtxt p (k, i, d, s, t))) ∧ Below w.heap.size w w' := by
  have hb := hide ((Below.refl w.heap.size w).alloc (Nat.le_refl _) (rC k i d s t))
  have HS := hide hs
  have HT := hide ht
  have HTw := hide hT
  clear hs ht hT
  go_enter Tryz.func18, Tryz.ntmps18
  go_wp2_with fail
  refine (v_kind k i d s t _ HS.out HT.out).mono ?_
  rintro e w1 ⟨rfl, hb1⟩
  have Hb1 := hide (hb.out.trans (hb1.mono (by simp)))
  have hz1 : w.heap.size ≤ w1.heap.size := Hb1.out.size
  clear hb1
  obtain ⟨K, hK⟩ : ∃ K, kV (k, i, d, s, t) = K := ⟨_, rfl⟩
  rw [hK]
  have HK := hide hK
  clear hK
  cases h : reB (k, i, d, s, t)
  · have H : Hid (rtxt p (k, i, d, s, t) = ⟨#[]⟩) := by show tb _ = _; rw [textL_2 h]; rfl
    clear h
    rw [show vkV false K = .tuple #[.nilIface, .bool false] from rfl]
    go_wp2_with fail
    go_ret
    exact ⟨by rw [H.out]; rfl, Hb1.out⟩
  have H2 := hide h
  clear h
  rw [show vkV true K = .tuple #[K, .bool true] from rfl]
  by_cases h1 : p < 1
  · have H : Hid (rtxt p (k, i, d, s, t) = ⟨#[]⟩) := by show tb _ = _; rw [textL_1 (by unfold inP; simp; omega)]; rfl
    go_wp2_with fail
    go_ret
    exact ⟨by rw [H.out]; rfl, Hb1.out⟩
  by_cases h30 : 30 < p
  · have H : Hid (rtxt p (k, i, d, s, t) = ⟨#[]⟩) := by show tb _ = _; rw [textL_1 (by unfold inP; simp; omega)]; rfl
    go_wp2_with fail
    go_ret
    exact ⟨by rw [H.out]; rfl, Hb1.out⟩
  obtain ⟨m, rfl⟩ : ∃ m : Nat, p = (m : Int) := ⟨p.toNat, by omega⟩
  have hm : m < 1000 := by omega
  have H1 : Hid (inP (m : Int) = true) := inP_iff.2 (by omega)
  go_wp2_with fail
  refine (itoa_call m hm _ (HTw.out.on Hb1.out)).mono ?_
  rintro e w2 ⟨rfl, hb2⟩
  have Hb2 := hide (Hb1.out.trans (hb2.mono (by omega)))
  have hz2 : w1.heap.size ≤ w2.heap.size := hb2.size
  clear hb2
  have hd3 := decB_size m
  go_wp2_with fail
  rw [← HK.out]
  refine (k_txt (k, i, d, s, t) _ H2.out (HTw.out.on Hb2.out)).mono ?_
  rintro e w3 ⟨rfl, hb3⟩
  have Hb3 := hide (Hb2.out.trans (hb3.mono (by omega)))
  have hz3 : w2.heap.size ≤ w3.heap.size := hb3.size
  clear hb3
  have hbz : (tb (bodL (k, i, d, s, t))).size ≤ 20 := bod_size H2.out
  go_wp2_with fail
  obtain ⟨tx, htx⟩ : ∃ tx, decB m ++ { data := #[32] } ++ tb (bodL (k, i, d, s, t)) = tx := ⟨_, rfl⟩
  have htl : tx.data.toList = join4 m (k, i, d, s, t) := by rw [← htx]; simp [join4_bod, decB, tb_data]
  have hts : tx.size ≤ 24 := by rw [← htx, ByteArray.size_append, ByteArray.size_append]; show (decB m).size + 1 + _ ≤ 24; omega
  have HTL := hide htl
  have htm : tx.size ≤ maxLen := by unfold maxLen; omega
  rw [htx]
  clear htx htl
  refine (t_check tx _ htm).mono ?_
  rintro e w' ⟨rfl, rfl⟩
  rw [HTL.out]
  obtain ⟨c, hc⟩ : ∃ c, chk (join4 m (k, i, d, s, t)) = c := ⟨_, rfl⟩
  have hc9 : c < 1000 := by have := chk_lt (join4 m (k, i, d, s, t)); omega
  have hd9 := decB_size c
  rw [hc]
  have HC := hide hc
  clear hc
  go_wp2_with fail
  refine (itoa_call c hc9 _ (HTw.out.on Hb3.out)).mono ?_
  rintro e w6 ⟨rfl, hb6⟩
  have H : Hid (rtxt (m : Int) (k, i, d, s, t) = tx ++ ⟨#[32]⟩ ++ decB c) := by
    apply ba_ext
    show (tb _).data.toList = _
    rw [tb_data, textL_t H1.out H2.out, Int.toNat_natCast]
    show lineL m _ = _
    unfold lineL
    rw [HC.out, ← HTL.out]
    simp [decB, tb_data]
  have Hb6 := hide (Hb3.out.trans (hb6.mono (by omega)))
  clear hb6
  go_wp2_with fail
  go_ret
  exact ⟨by rw [H.out]; rfl, Hb6.out⟩
end Go.Proofs.YtmofnmklodmkmaaGreatDoor
