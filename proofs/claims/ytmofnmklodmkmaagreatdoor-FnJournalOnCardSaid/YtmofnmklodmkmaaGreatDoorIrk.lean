/- validKind of the program. -/
import Derived.Test.YtmofnmklodmkmaaGreatDoorIrw
set_option linter.unusedVariables false
set_option linter.unusedSimpArgs false
namespace Go.Proofs.YtmofnmklodmkmaaGreatDoor
open Go.RowKit Go.BigFrame

def vkV (b : Bool) (K : Value) : Value := bif b then .tuple #[K, .bool true] else .tuple #[.nilIface, .bool false]
theorem Blk.later5 {w : World} {g B : Nat} {T : TypeId} {a b d s t : Value} (h : Blk w g T #[a, b, d, s, t]) (hB : g < B) : ∀ z : Later B w, z.it.cell? ⟨g, 0, none⟩ = some a ∧ z.it.cell? ⟨g, 1, none⟩ = some b ∧ z.it.cell? ⟨g, 2, none⟩ = some d ∧ z.it.cell? ⟨g, 3, none⟩ = some s ∧ z.it.cell? ⟨g, 4, none⟩ = some t := fun z =>
  ⟨(z.cell hB).trans (h.cell 0), (z.cell hB).trans (h.cell 1), (z.cell hB).trans (h.cell 2), (z.cell hB).trans (h.cell 3), (z.cell hB).trans (h.cell 4)⟩

theorem Later.kv1 {B : Nat} {W : World} (z : Later B W) {i : Int} {s : ByteArray} {b : Bool} (h : (inR i && nvB s) = b) (hs : s.size ≤ maxLen) (hB : B ≤ W.heap.size) :
    Calls Tryz.prog 133 #[.agg #[.int .i64 i, .string s]] z.it fun e w'' => e = .returned (.bool b) ∧ ∃ z' : Later B W, w'' = z'.it :=
  Later.call ((k_val1 i s z.it hs).mono fun e w' ⟨h1, h2⟩ => ⟨by rw [h1, h], h2.mono (by have := z.below.size; omega)⟩)
theorem Later.kv2 {B : Nat} {W : World} (z : Later B W) {i d : Int} {b : Bool} (h : (inR i && inT d) = b) (hB : B ≤ W.heap.size) :
    Calls Tryz.prog 137 #[.agg #[.int .i64 i, .int .i64 d]] z.it fun e w'' => e = .returned (.bool b) ∧ ∃ z' : Later B W, w'' = z'.it :=
  Later.call ((k_val2 i d z.it).mono fun e w' ⟨h1, h2⟩ => ⟨by rw [h1, h], h2.mono (by have := z.below.size; omega)⟩)
theorem Later.kv3 {B : Nat} {W : World} (z : Later B W) {s t : ByteArray} {b : Bool} (h : (nvB s && (nvB t && !decide (s = t))) = b) (hs : s.size ≤ maxLen) (ht : t.size ≤ maxLen) (hB : B ≤ W.heap.size) :
    Calls Tryz.prog 138 #[.agg #[.string s, .string t]] z.it fun e w'' => e = .returned (.bool b) ∧ ∃ z' : Later B W, w'' = z'.it :=
  Later.call ((k_val3 s t z.it hs ht).mono fun e w' ⟨h1, h2⟩ => ⟨by rw [h1, h], h2.mono (by have := z.below.size; omega)⟩)
theorem Later.ko1 {B : Nat} {W : World} (z : Later B W) (i : Int) (s : ByteArray) (hB : B ≤ W.heap.size) :
    Calls Tryz.prog 50 #[kP i s] z.it fun e w'' => e = .returned (rV 1 i 0 s ⟨#[]⟩) ∧ ∃ z' : Later B W, w'' = z'.it :=
  Later.call ((k_of1 i s z.it).mono fun e w' ⟨h1, h2⟩ => ⟨h1, h2.mono (by have := z.below.size; omega)⟩)
theorem Later.ko2 {B : Nat} {W : World} (z : Later B W) (i d : Int) (hB : B ≤ W.heap.size) :
    Calls Tryz.prog 50 #[kM i d] z.it fun e w'' => e = .returned (rV 2 i d ⟨#[]⟩ ⟨#[]⟩) ∧ ∃ z' : Later B W, w'' = z'.it :=
  Later.call ((k_of2 i d z.it).mono fun e w' ⟨h1, h2⟩ => ⟨h1, h2.mono (by have := z.below.size; omega)⟩)
theorem Later.ko3 {B : Nat} {W : World} (z : Later B W) (s t : ByteArray) (hB : B ≤ W.heap.size) :
    Calls Tryz.prog 50 #[kF s t] z.it fun e w'' => e = .returned (rV 3 0 0 s t) ∧ ∃ z' : Later B W, w'' = z'.it :=
  Later.call ((k_of3 s t z.it).mono fun e w' ⟨h1, h2⟩ => ⟨h1, h2.mono (by have := z.below.size; omega)⟩)
theorem Later.ko4 {B : Nat} {W : World} (z : Later B W) (s t : ByteArray) (hB : B ≤ W.heap.size) :
    Calls Tryz.prog 50 #[kU s t] z.it fun e w'' => e = .returned (rV 4 0 0 s t) ∧ ∃ z' : Later B W, w'' = z'.it :=
  Later.call ((k_of4 s t z.it).mono fun e w' ⟨h1, h2⟩ => ⟨h1, h2.mono (by have := z.below.size; omega)⟩)

set_option maxHeartbeats 2000000 in
set_option maxRecDepth 100000 in
theorem v_kind1 (i d : Int) (s t : ByteArray) (w : World) (hs : s.size ≤ maxLen) (ht : t.size ≤ maxLen) :
    Calls Tryz.prog 29 #[.agg #[.int .i64 1, .int .i64 i, .int .i64 d, .string s, .string t]] w fun e w' => e = .returned (vkV (reB (1, i, d, s, t)) (kP i s)) ∧ Below w.heap.size w w' := by
  have hb := hide ((Below.refl w.heap.size w).alloc (Nat.le_refl _) (rC 1 i d s t))
  have HX := hide (Blk.new w 28 #[.int .i64 1, .int .i64 i, .int .i64 d, .string s, .string t])
  have HS := hide hs
  have HT := hide ht
  clear hs ht
  go_enter Tryz.func29, Tryz.ntmps29
  go_wp2_with fail
  refine (k_new1 i d s t _).mono ?_
  rintro e w1 ⟨rfl, hb1⟩
  have Hb1 := hide (hb.out.trans (hb1.mono (by simp)))
  have HX1 := hide (HX.out.below hb1 (by simp))
  have hz1 : w.heap.size < w1.heap.size := by have h := hb1.size; simp at h; omega
  have hc := HX1.out.later5 hz1
  have c0 := fun z => (hc z).1
  have c1 := fun z => (hc z).2.1
  have c2 := fun z => (hc z).2.2.1
  have c3 := fun z => (hc z).2.2.2.1
  have c4 := fun z => (hc z).2.2.2.2
  have hm := me_p
  clear hb1 hc
  go_wp2_with fail
  cases hv : (inR i && nvB s)
  · have H : Hid (reB (1, i, d, s, t) = false) := by
      show _ = _
      rw [reB_1 rfl]
      show (inR i && (decide (d = 0) && (nvB s && emB t))) = false
      cases h1 : inR i
      · rfl
      · rw [h1] at hv
        rw [show nvB s = false from hv]; simp
    have HV := hide hv
    clear hv
    refine wp_region_later (B := w1.heap.size) (by kernel_rfl) (by kernel_rfl) ?_
    repeat (go_big_quiet_step ((first | (go_at_call 133; exact Later.kv1 _ HV.out HS.out (Nat.le_refl _)))))
    refine wpQuiet_nil ?_
    intro _ hw'
    obtain ⟨⟨w5, hb5⟩, hw''⟩ := hw'
    subst hw''
    have Hb5 := hide hb5
    clear hb5
    go_wp2_with fail
    go_ret2
    exact ⟨by rw [H.out]; rfl, Hb1.out.trans (Hb5.out.mono (by omega))⟩
  have HV := hide hv
  have HE : Hid (reB (1, i, d, s, t) = (decide (d = 0) && emB t)) := by
    show _ = _
    rw [Bool.and_eq_true] at hv
    rw [reB_1 rfl]
    show (inR i && (decide (d = 0) && (nvB s && emB t))) = _
    rw [hv.1, hv.2]; simp
  clear hv
  by_cases hd : d = 0
  · subst hd
    cases hq : emB t
    · have q1 : t.toList.isEmpty = false := (emB_eq t).trans hq
      have H : Hid (reB (1, i, 0, s, t) = false) := by show _ = _; rw [HE.out, hq]; rfl
      clear hq
      refine wp_region_later (B := w1.heap.size) (by kernel_rfl) (by kernel_rfl) ?_
      repeat (go_big_quiet_step ((first | (go_at_call 133; exact Later.kv1 _ HV.out HS.out (Nat.le_refl _)) | (go_at_call 50; exact Later.ko1 _ i s (Nat.le_refl _)))))
      refine wpQuiet_nil ?_
      intro _ hw'
      obtain ⟨⟨w5, hb5⟩, hw''⟩ := hw'
      subst hw''
      have Hb5 := hide hb5
      clear hb5
      go_wp2_with fail
      go_ret2
      exact ⟨by rw [H.out]; rfl, Hb1.out.trans (Hb5.out.mono (by omega))⟩
    · have q1 : t.toList.isEmpty = true := (emB_eq t).trans hq
      have H : Hid (reB (1, i, 0, s, t) = true) := by show _ = _; rw [HE.out, hq]; rfl
      clear hq
      refine wp_region_later (B := w1.heap.size) (by kernel_rfl) (by kernel_rfl) ?_
      repeat (go_big_quiet_step ((first | (go_at_call 133; exact Later.kv1 _ HV.out HS.out (Nat.le_refl _)) | (go_at_call 50; exact Later.ko1 _ i s (Nat.le_refl _)))))
      refine wpQuiet_nil ?_
      intro _ hw'
      obtain ⟨⟨w5, hb5⟩, hw''⟩ := hw'
      subst hw''
      have Hb5 := hide hb5
      clear hb5
      go_wp2_with fail
      go_ret2
      exact ⟨by rw [H.out]; rfl, Hb1.out.trans (Hb5.out.mono (by omega))⟩
  · have H : Hid (reB (1, i, d, s, t) = false) := by show _ = _; rw [HE.out]; simp [hd]
    have q1 : decide (0 = d) = false := by simpa using fun h : (0 : Int) = d => hd h.symm
    have q2 : ¬ (0 : Int) = d := fun h => hd h.symm
    refine wp_region_later (B := w1.heap.size) (by kernel_rfl) (by kernel_rfl) ?_
    repeat (go_big_quiet_step ((first | (go_at_call 133; exact Later.kv1 _ HV.out HS.out (Nat.le_refl _)) | (go_at_call 50; exact Later.ko1 _ i s (Nat.le_refl _)))))
    refine wpQuiet_nil ?_
    intro _ hw'
    obtain ⟨⟨w5, hb5⟩, hw''⟩ := hw'
    subst hw''
    have Hb5 := hide hb5
    clear hb5
    go_wp2_with fail
    go_ret2
    exact ⟨by rw [H.out]; rfl, Hb1.out.trans (Hb5.out.mono (by omega))⟩

set_option maxHeartbeats 2000000 in
set_option maxRecDepth 100000 in
theorem v_kind2 (i d : Int) (s t : ByteArray) (w : World) (hs : s.size ≤ maxLen) (ht : t.size ≤ maxLen) :
    Calls Tryz.prog 29 #[.agg #[.int .i64 2, .int .i64 i, .int .i64 d, .string s, .string t]] w fun e w' => e = .returned (vkV (reB (2, i, d, s, t)) (kM i d)) ∧ Below w.heap.size w w' := by
  have hb := hide ((Below.refl w.heap.size w).alloc (Nat.le_refl _) (rC 2 i d s t))
  have HX := hide (Blk.new w 28 #[.int .i64 2, .int .i64 i, .int .i64 d, .string s, .string t])
  have HS := hide hs
  have HT := hide ht
  clear hs ht
  go_enter Tryz.func29, Tryz.ntmps29
  go_wp2_with fail
  refine (k_new2 i d s t _).mono ?_
  rintro e w1 ⟨rfl, hb1⟩
  have Hb1 := hide (hb.out.trans (hb1.mono (by simp)))
  have HX1 := hide (HX.out.below hb1 (by simp))
  have hz1 : w.heap.size < w1.heap.size := by have h := hb1.size; simp at h; omega
  have hc := HX1.out.later5 hz1
  have c0 := fun z => (hc z).1
  have c1 := fun z => (hc z).2.1
  have c2 := fun z => (hc z).2.2.1
  have c3 := fun z => (hc z).2.2.2.1
  have c4 := fun z => (hc z).2.2.2.2
  have hm := me_m
  clear hb1 hc
  go_wp2_with fail
  cases hv : (inR i && inT d)
  · have H : Hid (reB (2, i, d, s, t) = false) := by
      show _ = _
      rw [reB_2 rfl]
      show (inR i && (inT d && (emB s && emB t))) = false
      cases h1 : inR i
      · rfl
      · rw [h1] at hv
        rw [show inT d = false from hv]; rfl
    have HV := hide hv
    clear hv
    refine wp_region_later (B := w1.heap.size) (by kernel_rfl) (by kernel_rfl) ?_
    repeat (go_big_quiet_step ((first | (go_at_call 137; exact Later.kv2 _ HV.out (Nat.le_refl _)))))
    refine wpQuiet_nil ?_
    intro _ hw'
    obtain ⟨⟨w5, hb5⟩, hw''⟩ := hw'
    subst hw''
    have Hb5 := hide hb5
    clear hb5
    go_wp2_with fail
    go_ret2
    exact ⟨by rw [H.out]; rfl, Hb1.out.trans (Hb5.out.mono (by omega))⟩
  have HV := hide hv
  have HE : Hid (reB (2, i, d, s, t) = (emB s && emB t)) := by
    show _ = _
    rw [Bool.and_eq_true] at hv
    rw [reB_2 rfl]
    show (inR i && (inT d && (emB s && emB t))) = _
    rw [hv.1, hv.2]; rfl
  clear hv
  cases hq : emB s
  · have q1 : s.toList.isEmpty = false := (emB_eq s).trans hq
    have H : Hid (reB (2, i, d, s, t) = false) := by show _ = _; rw [HE.out, hq]; rfl
    clear hq
    refine wp_region_later (B := w1.heap.size) (by kernel_rfl) (by kernel_rfl) ?_
    repeat (go_big_quiet_step ((first | (go_at_call 137; exact Later.kv2 _ HV.out (Nat.le_refl _)) | (go_at_call 50; exact Later.ko2 _ i d (Nat.le_refl _)))))
    refine wpQuiet_nil ?_
    intro _ hw'
    obtain ⟨⟨w5, hb5⟩, hw''⟩ := hw'
    subst hw''
    have Hb5 := hide hb5
    clear hb5
    go_wp2_with fail
    go_ret2
    exact ⟨by rw [H.out]; rfl, Hb1.out.trans (Hb5.out.mono (by omega))⟩
  · have q1 : s.toList.isEmpty = true := (emB_eq s).trans hq
    cases hr : emB t
    · have q2 : t.toList.isEmpty = false := (emB_eq t).trans hr
      have H : Hid (reB (2, i, d, s, t) = false) := by show _ = _; rw [HE.out, hq, hr]; rfl
      clear hq hr
      refine wp_region_later (B := w1.heap.size) (by kernel_rfl) (by kernel_rfl) ?_
      repeat (go_big_quiet_step ((first | (go_at_call 137; exact Later.kv2 _ HV.out (Nat.le_refl _)) | (go_at_call 50; exact Later.ko2 _ i d (Nat.le_refl _)))))
      refine wpQuiet_nil ?_
      intro _ hw'
      obtain ⟨⟨w5, hb5⟩, hw''⟩ := hw'
      subst hw''
      have Hb5 := hide hb5
      clear hb5
      go_wp2_with fail
      go_ret2
      exact ⟨by rw [H.out]; rfl, Hb1.out.trans (Hb5.out.mono (by omega))⟩
    · have q2 : t.toList.isEmpty = true := (emB_eq t).trans hr
      have H : Hid (reB (2, i, d, s, t) = true) := by show _ = _; rw [HE.out, hq, hr]; rfl
      clear hq hr
      refine wp_region_later (B := w1.heap.size) (by kernel_rfl) (by kernel_rfl) ?_
      repeat (go_big_quiet_step ((first | (go_at_call 137; exact Later.kv2 _ HV.out (Nat.le_refl _)) | (go_at_call 50; exact Later.ko2 _ i d (Nat.le_refl _)))))
      refine wpQuiet_nil ?_
      intro _ hw'
      obtain ⟨⟨w5, hb5⟩, hw''⟩ := hw'
      subst hw''
      have Hb5 := hide hb5
      clear hb5
      go_wp2_with fail
      go_ret2
      exact ⟨by rw [H.out]; rfl, Hb1.out.trans (Hb5.out.mono (by omega))⟩

set_option maxHeartbeats 2000000 in
set_option maxRecDepth 100000 in
theorem v_kind3 (i d : Int) (s t : ByteArray) (w : World) (hs : s.size ≤ maxLen) (ht : t.size ≤ maxLen) :
    Calls Tryz.prog 29 #[.agg #[.int .i64 3, .int .i64 i, .int .i64 d, .string s, .string t]] w fun e w' => e = .returned (vkV (reB (3, i, d, s, t)) (kF s t)) ∧ Below w.heap.size w w' := by
  have hb := hide ((Below.refl w.heap.size w).alloc (Nat.le_refl _) (rC 3 i d s t))
  have HX := hide (Blk.new w 28 #[.int .i64 3, .int .i64 i, .int .i64 d, .string s, .string t])
  have HS := hide hs
  have HT := hide ht
  clear hs ht
  go_enter Tryz.func29, Tryz.ntmps29
  go_wp2_with fail
  refine (k_new3 i d s t _).mono ?_
  rintro e w1 ⟨rfl, hb1⟩
  have Hb1 := hide (hb.out.trans (hb1.mono (by simp)))
  have HX1 := hide (HX.out.below hb1 (by simp))
  have hz1 : w.heap.size < w1.heap.size := by have h := hb1.size; simp at h; omega
  have hc := HX1.out.later5 hz1
  have c0 := fun z => (hc z).1
  have c1 := fun z => (hc z).2.1
  have c2 := fun z => (hc z).2.2.1
  have c3 := fun z => (hc z).2.2.2.1
  have c4 := fun z => (hc z).2.2.2.2
  have hm := me_f
  clear hb1 hc
  go_wp2_with fail
  cases hv : (nvB s && (nvB t && !decide (s = t)))
  · have H : Hid (reB (3, i, d, s, t) = false) := by
      show _ = _
      rw [reB_3 (.inl rfl)]
      show (decide (i = 0) && (decide (d = 0) && (nvB s && (nvB t && !decide (s = t))))) = false
      rw [hv]; simp
    have HV := hide hv
    clear hv
    refine wp_region_later (B := w1.heap.size) (by kernel_rfl) (by kernel_rfl) ?_
    repeat (go_big_quiet_step ((first | (go_at_call 138; exact Later.kv3 _ HV.out HS.out HT.out (Nat.le_refl _)))))
    refine wpQuiet_nil ?_
    intro _ hw'
    obtain ⟨⟨w5, hb5⟩, hw''⟩ := hw'
    subst hw''
    have Hb5 := hide hb5
    clear hb5
    go_wp2_with fail
    go_ret2
    exact ⟨by rw [H.out]; rfl, Hb1.out.trans (Hb5.out.mono (by omega))⟩
  have HV := hide hv
  have HE : Hid (reB (3, i, d, s, t) = (decide (i = 0) && decide (d = 0))) := by
    show _ = _
    rw [reB_3 (.inl rfl)]
    show (decide (i = 0) && (decide (d = 0) && (nvB s && (nvB t && !decide (s = t))))) = _
    rw [hv]; simp
  clear hv
  by_cases hi : i = 0
  · subst hi
    by_cases hd : d = 0
    · subst hd
      have H : Hid (reB (3, 0, 0, s, t) = true) := by show _ = _; rw [HE.out]; rfl
      refine wp_region_later (B := w1.heap.size) (by kernel_rfl) (by kernel_rfl) ?_
      repeat (go_big_quiet_step ((first | (go_at_call 138; exact Later.kv3 _ HV.out HS.out HT.out (Nat.le_refl _)) | (go_at_call 50; exact Later.ko3 _ s t (Nat.le_refl _)))))
      refine wpQuiet_nil ?_
      intro _ hw'
      obtain ⟨⟨w5, hb5⟩, hw''⟩ := hw'
      subst hw''
      have Hb5 := hide hb5
      clear hb5
      go_wp2_with fail
      go_ret2
      exact ⟨by rw [H.out]; rfl, Hb1.out.trans (Hb5.out.mono (by omega))⟩
    · have H : Hid (reB (3, 0, d, s, t) = false) := by show _ = _; rw [HE.out]; simp [hd]
      have q1 : decide (0 = d) = false := by simpa using fun h : (0 : Int) = d => hd h.symm
      have q2 : ¬ (0 : Int) = d := fun h => hd h.symm
      refine wp_region_later (B := w1.heap.size) (by kernel_rfl) (by kernel_rfl) ?_
      repeat (go_big_quiet_step ((first | (go_at_call 138; exact Later.kv3 _ HV.out HS.out HT.out (Nat.le_refl _)) | (go_at_call 50; exact Later.ko3 _ s t (Nat.le_refl _)))))
      refine wpQuiet_nil ?_
      intro _ hw'
      obtain ⟨⟨w5, hb5⟩, hw''⟩ := hw'
      subst hw''
      have Hb5 := hide hb5
      clear hb5
      go_wp2_with fail
      go_ret2
      exact ⟨by rw [H.out]; rfl, Hb1.out.trans (Hb5.out.mono (by omega))⟩
  · have H : Hid (reB (3, i, d, s, t) = false) := by show _ = _; rw [HE.out]; simp [hi]
    have q1 : decide (0 = i) = false := by simpa using fun h : (0 : Int) = i => hi h.symm
    have q2 : ¬ (0 : Int) = i := fun h => hi h.symm
    refine wp_region_later (B := w1.heap.size) (by kernel_rfl) (by kernel_rfl) ?_
    repeat (go_big_quiet_step ((first | (go_at_call 138; exact Later.kv3 _ HV.out HS.out HT.out (Nat.le_refl _)) | (go_at_call 50; exact Later.ko3 _ s t (Nat.le_refl _)))))
    refine wpQuiet_nil ?_
    intro _ hw'
    obtain ⟨⟨w5, hb5⟩, hw''⟩ := hw'
    subst hw''
    have Hb5 := hide hb5
    clear hb5
    go_wp2_with fail
    go_ret2
    exact ⟨by rw [H.out]; rfl, Hb1.out.trans (Hb5.out.mono (by omega))⟩

set_option maxHeartbeats 2000000 in
set_option maxRecDepth 100000 in
theorem v_kind4 (i d : Int) (s t : ByteArray) (w : World) (hs : s.size ≤ maxLen) (ht : t.size ≤ maxLen) :
    Calls Tryz.prog 29 #[.agg #[.int .i64 4, .int .i64 i, .int .i64 d, .string s, .string t]] w fun e w' => e = .returned (vkV (reB (4, i, d, s, t)) (kU s t)) ∧ Below w.heap.size w w' := by
  have hb := hide ((Below.refl w.heap.size w).alloc (Nat.le_refl _) (rC 4 i d s t))
  have HX := hide (Blk.new w 28 #[.int .i64 4, .int .i64 i, .int .i64 d, .string s, .string t])
  have HS := hide hs
  have HT := hide ht
  clear hs ht
  go_enter Tryz.func29, Tryz.ntmps29
  go_wp2_with fail
  refine (k_new4 i d s t _).mono ?_
  rintro e w1 ⟨rfl, hb1⟩
  have Hb1 := hide (hb.out.trans (hb1.mono (by simp)))
  have HX1 := hide (HX.out.below hb1 (by simp))
  have hz1 : w.heap.size < w1.heap.size := by have h := hb1.size; simp at h; omega
  have hc := HX1.out.later5 hz1
  have c0 := fun z => (hc z).1
  have c1 := fun z => (hc z).2.1
  have c2 := fun z => (hc z).2.2.1
  have c3 := fun z => (hc z).2.2.2.1
  have c4 := fun z => (hc z).2.2.2.2
  have hm := me_u
  clear hb1 hc
  go_wp2_with fail
  cases hv : (nvB s && (nvB t && !decide (s = t)))
  · have H : Hid (reB (4, i, d, s, t) = false) := by
      show _ = _
      rw [reB_3 (.inr rfl)]
      show (decide (i = 0) && (decide (d = 0) && (nvB s && (nvB t && !decide (s = t))))) = false
      rw [hv]; simp
    have HV := hide hv
    clear hv
    refine wp_region_later (B := w1.heap.size) (by kernel_rfl) (by kernel_rfl) ?_
    repeat (go_big_quiet_step ((first | (go_at_call 138; exact Later.kv3 _ HV.out HS.out HT.out (Nat.le_refl _)))))
    refine wpQuiet_nil ?_
    intro _ hw'
    obtain ⟨⟨w5, hb5⟩, hw''⟩ := hw'
    subst hw''
    have Hb5 := hide hb5
    clear hb5
    go_wp2_with fail
    go_ret2
    exact ⟨by rw [H.out]; rfl, Hb1.out.trans (Hb5.out.mono (by omega))⟩
  have HV := hide hv
  have HE : Hid (reB (4, i, d, s, t) = (decide (i = 0) && decide (d = 0))) := by
    show _ = _
    rw [reB_3 (.inr rfl)]
    show (decide (i = 0) && (decide (d = 0) && (nvB s && (nvB t && !decide (s = t))))) = _
    rw [hv]; simp
  clear hv
  by_cases hi : i = 0
  · subst hi
    by_cases hd : d = 0
    · subst hd
      have H : Hid (reB (4, 0, 0, s, t) = true) := by show _ = _; rw [HE.out]; rfl
      refine wp_region_later (B := w1.heap.size) (by kernel_rfl) (by kernel_rfl) ?_
      repeat (go_big_quiet_step ((first | (go_at_call 138; exact Later.kv3 _ HV.out HS.out HT.out (Nat.le_refl _)) | (go_at_call 50; exact Later.ko4 _ s t (Nat.le_refl _)))))
      refine wpQuiet_nil ?_
      intro _ hw'
      obtain ⟨⟨w5, hb5⟩, hw''⟩ := hw'
      subst hw''
      have Hb5 := hide hb5
      clear hb5
      go_wp2_with fail
      go_ret2
      exact ⟨by rw [H.out]; rfl, Hb1.out.trans (Hb5.out.mono (by omega))⟩
    · have H : Hid (reB (4, 0, d, s, t) = false) := by show _ = _; rw [HE.out]; simp [hd]
      have q1 : decide (0 = d) = false := by simpa using fun h : (0 : Int) = d => hd h.symm
      have q2 : ¬ (0 : Int) = d := fun h => hd h.symm
      refine wp_region_later (B := w1.heap.size) (by kernel_rfl) (by kernel_rfl) ?_
      repeat (go_big_quiet_step ((first | (go_at_call 138; exact Later.kv3 _ HV.out HS.out HT.out (Nat.le_refl _)) | (go_at_call 50; exact Later.ko4 _ s t (Nat.le_refl _)))))
      refine wpQuiet_nil ?_
      intro _ hw'
      obtain ⟨⟨w5, hb5⟩, hw''⟩ := hw'
      subst hw''
      have Hb5 := hide hb5
      clear hb5
      go_wp2_with fail
      go_ret2
      exact ⟨by rw [H.out]; rfl, Hb1.out.trans (Hb5.out.mono (by omega))⟩
  · have H : Hid (reB (4, i, d, s, t) = false) := by show _ = _; rw [HE.out]; simp [hi]
    have q1 : decide (0 = i) = false := by simpa using fun h : (0 : Int) = i => hi h.symm
    have q2 : ¬ (0 : Int) = i := fun h => hi h.symm
    refine wp_region_later (B := w1.heap.size) (by kernel_rfl) (by kernel_rfl) ?_
    repeat (go_big_quiet_step ((first | (go_at_call 138; exact Later.kv3 _ HV.out HS.out HT.out (Nat.le_refl _)) | (go_at_call 50; exact Later.ko4 _ s t (Nat.le_refl _)))))
    refine wpQuiet_nil ?_
    intro _ hw'
    obtain ⟨⟨w5, hb5⟩, hw''⟩ := hw'
    subst hw''
    have Hb5 := hide hb5
    clear hb5
    go_wp2_with fail
    go_ret2
    exact ⟨by rw [H.out]; rfl, Hb1.out.trans (Hb5.out.mono (by omega))⟩

set_option maxHeartbeats 2000000 in
set_option maxRecDepth 100000 in
theorem v_kind0 (k i d : Int) (s t : ByteArray) (w : World) (h1 : ¬ k = 1) (h2 : ¬ k = 2) (h3 : ¬ k = 3) (h4 : ¬ k = 4) :
    Calls Tryz.prog 29 #[.agg #[.int .i64 k, .int .i64 i, .int .i64 d, .string s, .string t]] w fun e w' => e = .returned (.tuple #[.nilIface, .bool false]) ∧ Below w.heap.size w w' := by
  have hb := hide ((Below.refl w.heap.size w).alloc (Nat.le_refl _) (rC k i d s t))
  go_enter Tryz.func29, Tryz.ntmps29
  go_wp2_with fail
  refine (k_new0 k i d s t _ h1 h2 h3 h4).mono ?_
  rintro e w1 ⟨rfl, hb1⟩
  have Hb1 := hide (hb.out.trans (hb1.mono (by simp)))
  have hz1 : w.heap.size < w1.heap.size := by have h := hb1.size; simp at h; omega
  clear hb1
  go_wp2_with fail
  refine wp_region_later (B := w1.heap.size) (by kernel_rfl) (by kernel_rfl) ?_
  repeat (go_big_quiet_step ((fail)))
  refine wpQuiet_nil ?_
  intro _ hw'
  obtain ⟨⟨w5, hb5⟩, hw''⟩ := hw'
  subst hw''
  have Hb5 := hide hb5
  clear hb5
  go_wp2_with fail
  go_ret2
  exact ⟨rfl, Hb1.out.trans (Hb5.out.mono (by omega))⟩

/-- What a record tells. -/
def kV (r : Rec) : Value := if r.1 = 1 then kP r.2.1 r.2.2.2.1 else if r.1 = 2 then kM r.2.1 r.2.2.1 else if r.1 = 3 then kF r.2.2.2.1 r.2.2.2.2 else kU r.2.2.2.1 r.2.2.2.2
theorem v_kind (k i d : Int) (s t : ByteArray) (w : World) (hs : s.size ≤ maxLen) (ht : t.size ≤ maxLen) :
    Calls Tryz.prog 29 #[.agg #[.int .i64 k, .int .i64 i, .int .i64 d, .string s, .string t]] w fun e w' => e = .returned (vkV (reB (k, i, d, s, t)) (kV (k, i, d, s, t))) ∧ Below w.heap.size w w' := by
  by_cases h1 : k = 1
  · subst h1; exact v_kind1 i d s t w hs ht
  by_cases h2 : k = 2
  · subst h2; exact v_kind2 i d s t w hs ht
  by_cases h3 : k = 3
  · subst h3; exact v_kind3 i d s t w hs ht
  by_cases h4 : k = 4
  · subst h4; exact v_kind4 i d s t w hs ht
  · have H : reB (k, i, d, s, t) = false := reB_0 (show k < 1 ∨ 4 < k by omega)
    refine (v_kind0 k i d s t w h1 h2 h3 h4).mono fun e w' h => ?_
    rw [H]
    exact h

set_option maxHeartbeats 1000000 in
set_option maxRecDepth 100000 in
theorem i_RV (k i d : Int) (s t : ByteArray) (w : World) (hs : s.size ≤ maxLen) (ht : t.size ≤ maxLen) :
    Calls Tryz.prog 13 #[.agg #[.int .i64 k, .int .i64 i, .int .i64 d, .string s, .string t]] w fun e w' => e = .returned (.bool (reB (k, i, d, s, t))) ∧ Below w.heap.size w w' := by
  have hb := hide ((Below.refl w.heap.size w).alloc (Nat.le_refl _) (rC k i d s t))
  have HS := hide hs
  have HT := hide ht
  clear hs ht
  go_enter Tryz.func13, Tryz.ntmps13
  go_wp2_with fail
  refine (v_kind k i d s t _ HS.out HT.out).mono ?_
  rintro e w1 ⟨rfl, hb1⟩
  have Hb1 := hide (hb.out.trans (hb1.mono (by simp)))
  clear hb1
  generalize kV (k, i, d, s, t) = K
  cases h : reB (k, i, d, s, t)
  · have H := hide h
    clear h
    rw [show vkV false K = .tuple #[.nilIface, .bool false] from rfl]
    go_wp2_with fail
    go_ret
    exact ⟨by rw [H.out]; rfl, Hb1.out⟩
  · have H := hide h
    clear h
    rw [show vkV true K = .tuple #[K, .bool true] from rfl]
    go_wp2_with fail
    go_ret
    exact ⟨by rw [H.out]; rfl, Hb1.out⟩
end Go.Proofs.YtmofnmklodmkmaaGreatDoor
