/- Texts joined: Bv, Bp, DrawB, DrawB2, SameB, Bxr. -/
import Derived.Test.YtimpmlmkhjeajaaZc
import Derived.Test.YtimpmlmkhjeajaaZb
import Derived.Outline
import Derived.Deep.DeepMust

/- spec: l4Ids, BoxesValid. -/
set_option linter.unusedVariables false
set_option linter.unusedSimpArgs false
namespace Go.Proofs.Ytimpmlmkhjeajaa
open Go.RowKit Go.BigFrame

theorem Later.sNV {B : Nat} {W : World} (z : Later B W) {s : ByteArray} {b : Bool} (h : nvB s = b) (hs : s.size ≤ maxLen) :
    Calls Try.prog 102 #[.string s] z.it fun e w'' => e = .returned (.bool b) ∧ ∃ z' : Later B W, w'' = z'.it := Later.same (s_NV h _ hs)
theorem Later.sIn {B : Nat} {W : World} (z : Later B W) {n : Int} {b : Bool} (h : inR n = b) :
    Calls Try.prog 66 #[.int .i64 n, .int .i64 1, .int .i64 999] z.it fun e w'' => e = .returned (.bool b) ∧ ∃ z' : Later B W, w'' = z'.it := by
  subst h; exact Later.same (s_in n 1 999 _)

set_option maxHeartbeats 1000000 in
theorem s_ids (A : Option Addr) (n c : Nat) (L : List Int) (w : World) (hX : Ints w w.heap.size A n L) (hn : n ≤ maxLen) :
    Calls Try.prog 111 #[.slice A n c] w fun e w' => e = .returned (.bool (idsB L)) ∧ Below w.heap.size w w' := by
  unfold maxLen at hn
  have hl := hide hX.1
  have HX := hide hX
  clear hX
  go_enter Try.func111, Try.ntmps111
  go_wp2_with fail
  go_loopw [3] (fun i wr => ∃ k : Nat, k ≤ n ∧ i = .int .i64 k ∧ Hid (IUpto L k) ∧ Hid (Below w.heap.size w wr)) (fun i _ => n - (intOf i).toNat)
  case atStart => exact ⟨0, Nat.zero_le _, rfl, IUpto.zero L, Below.refl _ _⟩
  case round =>
    obtain ⟨k, hk, rfl, hu, hbr⟩ := hrel
    by_cases hlt : k < n
    · obtain ⟨a, ha⟩ : ∃ a, L[k]? = some a := ⟨L[k]'(by have := hl.out; omega), List.getElem?_eq_getElem _⟩
      obtain ⟨g, off, rfl, hg, hc0⟩ := (HX.out.below hbr.out).at' ha
      have hsz := hbr.out.size
      have hz0 : ∀ z : Later w.heap.size wr, z.it.cell? ⟨g, off + k, none⟩ = some (.int .i64 a) := fun z => (z.cell hg).trans hc0
      clear hc0
      cases h1 : inR a
      · have H : Hid (idsB L = false) := idsB_bad ha h1
        have H1 := hide h1
        clear ha h1
        go_wp2_with fail
        refine wp_region_later (B := w.heap.size) (by kernel_rfl) (by kernel_rfl) ?_
        repeat (go_big_quiet_step (((go_at_call 66; exact Later.sIn _ H1.out))))
        refine wpQuiet_nil ?_
        intro _ hw'
        obtain ⟨⟨w5, hb5⟩, hw''⟩ := hw'
        subst hw''
        have Hb5 := hide hb5
        clear hb5
        go_wp2_with fail
        go_ret
        exact ⟨ret_bool H.out.symm, hbr.out.trans Hb5.out⟩
      have H1 := hide h1
      rcases k with _ | k
      · have H : Hid (IUpto L 1) := IUpto.one ha h1
        clear ha h1
        rw [Nat.add_zero] at hz0
        go_wp2_with fail
        refine wp_region_later (B := w.heap.size) (by kernel_rfl) (by kernel_rfl) ?_
        repeat (go_big_quiet_step (((go_at_call 66; exact Later.sIn _ H1.out))))
        refine wpQuiet_nil ?_
        intro _ hw'
        obtain ⟨⟨w5, hb5⟩, hw''⟩ := hw'
        subst hw''
        have Hb5 := hide hb5
        clear hb5
        go_wp2_with fail
        go_roundw
        case rel => exact ⟨1, by omega, by go_num, H, hbr.out.trans Hb5.out⟩
        case measure => simp [intOf]; omega
      · obtain ⟨r, hr⟩ : ∃ r, L[k]? = some r := ⟨L[k]'(by have := hl.out; omega), List.getElem?_eq_getElem _⟩
        obtain ⟨g', off', e1, _, hr0⟩ := (HX.out.below hbr.out).at' hr
        injection e1 with e1
        injection e1 with e1 e2
        subst e1 e2
        have hz2 : ∀ z : Later w.heap.size wr, z.it.cell? ⟨g, off + k, none⟩ = some (.int .i64 r) := fun z => (z.cell hg).trans hr0
        have hk1 : (k : Int) + 1 < (n : Int) := by omega
        by_cases hrs : r ≤ a
        · have H : Hid (idsB L = false) := idsB_turn hr ha hrs
          clear ha hr h1 hr0
          go_wp2_with fail
          refine wp_region_later (B := w.heap.size) (by kernel_rfl) (by kernel_rfl) ?_
          repeat (go_big_quiet_step (((go_at_call 66; exact Later.sIn _ H1.out))))
          refine wpQuiet_nil ?_
          intro _ hw'
          obtain ⟨⟨w5, hb5⟩, hw''⟩ := hw'
          subst hw''
          have Hb5 := hide hb5
          clear hb5
          go_wp2_with fail
          go_ret
          exact ⟨ret_bool H.out.symm, hbr.out.trans Hb5.out⟩
        · have H : Hid (IUpto L (k + 2)) := hu.out.more hr ha h1 (by omega)
          clear ha hr h1 hr0
          go_wp2_with fail
          refine wp_region_later (B := w.heap.size) (by kernel_rfl) (by kernel_rfl) ?_
          repeat (go_big_quiet_step (((go_at_call 66; exact Later.sIn _ H1.out))))
          refine wpQuiet_nil ?_
          intro _ hw'
          obtain ⟨⟨w5, hb5⟩, hw''⟩ := hw'
          subst hw''
          have Hb5 := hide hb5
          clear hb5
          go_wp2_with fail
          go_roundw
          case rel => exact ⟨k + 2, by omega, by go_num, H, hbr.out.trans Hb5.out⟩
          case measure => simp [intOf]; omega
    · have H : Hid (idsB L = decide ((n : Int) ≤ 6)) := by
        have h1 := hu.out
        have h2 := hl.out
        rw [show k = n by omega, ← h2] at h1
        by_cases h6 : L.length ≤ 6
        · exact (h1.all h6).trans (by simp; omega)
        · exact (idsB_len (by omega)).trans (by simp; omega)
      go_wp2_with fail
      go_ret
      exact ⟨ret_bool H.out.symm, hbr.out⟩
theorem Later.sIds {B : Nat} {W : World} (z : Later B W) (A : Option Addr) (n c : Nat) (L : List Int) {b : Bool} (h : idsB L = b) (hL : Ints W B A n L) (hB : B ≤ W.heap.size) (hn : n ≤ maxLen) :
    Calls Try.prog 111 #[.slice A n c] z.it fun e w'' => e = .returned (.bool b) ∧ ∃ z' : Later B W, w'' = z'.it := by
  subst h
  have hsz := z.below.size
  exact Later.call ((s_ids A n c L z.it ((hL.below z.below).more (by omega)) hn).mono fun e w' ⟨h1, h2⟩ => ⟨h1, h2.mono (by omega)⟩)

set_option maxHeartbeats 2000000 in
theorem s_Bs (A : Option Addr) (n c : Nat) (X : List Bx) (w : World) (hX : Bxs w w.heap.size A n X) (hS : BSmall X) (hn : n ≤ maxLen) :
    Calls Try.prog 76 #[.slice A n c] w fun e w' => e = .returned (.bool (bxsB X)) ∧ Below w.heap.size w w' := by
  unfold maxLen at hn
  have hl := hide hX.1
  have HX := hide hX
  have HS := hide hS
  clear hX hS
  go_enter Try.func76, Try.ntmps76
  go_wp2_with fail
  go_loopw [3] (fun i wr => ∃ k : Nat, k ≤ n ∧ i = .int .i64 k ∧ Hid (BUpto X k) ∧ Hid (Below w.heap.size w wr)) (fun i _ => n - (intOf i).toNat)
  case atStart => exact ⟨0, Nat.zero_le _, rfl, BUpto.zero X, Below.refl _ _⟩
  case round =>
    obtain ⟨k, hk, rfl, hu, hbr⟩ := hrel
    by_cases hlt : k < n
    · obtain ⟨a, ha⟩ : ∃ a, X[k]? = some a := ⟨X[k]'(by have := hl.out; omega), List.getElem?_eq_getElem _⟩
      obtain ⟨g, off, A', n', c', rfl, hg, hc0, hc1, hn', hm', hf⟩ := (HX.out.below hbr.out).at' ha
      have Hsm := hide (HS.out a (List.mem_of_getElem? ha))
      have hsz := hbr.out.size
      have HF : Hid (Ints wr w.heap.size A' n' a.2) := hf.ints
      have hlen := hide HF.out.1
      have hz0 : ∀ z : Later w.heap.size wr, z.it.cell? ⟨g, off + k * 2, none⟩ = some (.string a.1) := fun z => (z.cell hg).trans hc0
      have hz1 : ∀ z : Later w.heap.size wr, z.it.cell? ⟨g, off + k * 2 + 1, none⟩ = some (.slice A' n' c') := fun z => (z.cell hg).trans hc1
      clear hf hc0 hc1
      cases h1 : nvB a.1
      · have H : Hid (bxsB X = false) := bxsB_bad ha (bxB_1 h1)
        have H1 := hide h1
        clear ha h1
        go_wp2_with fail
        refine wp_region_later (B := w.heap.size) (by kernel_rfl) (by kernel_rfl) ?_
        repeat (go_big_quiet_step ((first | (go_at_call 102; exact Later.sNV _ H1.out Hsm.out))))
        refine wpQuiet_nil ?_
        intro _ hw'
        obtain ⟨⟨w5, hb5⟩, hw''⟩ := hw'
        subst hw''
        have Hb5 := hide hb5
        clear hb5
        go_wp2_with fail
        go_ret
        exact ⟨ret_bool H.out.symm, hbr.out.trans Hb5.out⟩
      have H1 := hide h1
      cases h2 : idsB a.2
      · have H : Hid (bxsB X = false) := bxsB_bad ha (bxB_2 h2)
        have H2 := hide h2
        clear ha h1 h2
        go_wp2_with fail
        refine wp_region_later (B := w.heap.size) (by kernel_rfl) (by kernel_rfl) ?_
        repeat (go_big_quiet_step ((first | (go_at_call 102; exact Later.sNV _ H1.out Hsm.out) | (go_at_call 111; exact Later.sIds _ A' n' c' a.2 H2.out HF.out hsz hm'))))
        refine wpQuiet_nil ?_
        intro _ hw'
        obtain ⟨⟨w5, hb5⟩, hw''⟩ := hw'
        subst hw''
        have Hb5 := hide hb5
        clear hb5
        go_wp2_with fail
        go_ret
        exact ⟨ret_bool H.out.symm, hbr.out.trans Hb5.out⟩
      have H2 := hide h2
      by_cases h3 : n' = 0
      · have H : Hid (bxsB X = false) := bxsB_bad ha (bxB_3 (List.eq_nil_of_length_eq_zero (by have := hlen.out; omega)))
        subst h3
        clear ha h1 h2
        go_wp2_with fail
        refine wp_region_later (B := w.heap.size) (by kernel_rfl) (by kernel_rfl) ?_
        repeat (go_big_quiet_step ((first | (go_at_call 102; exact Later.sNV _ H1.out Hsm.out) | (go_at_call 111; exact Later.sIds _ A' 0 c' a.2 H2.out HF.out hsz hm'))))
        refine wpQuiet_nil ?_
        intro _ hw'
        obtain ⟨⟨w5, hb5⟩, hw''⟩ := hw'
        subst hw''
        have Hb5 := hide hb5
        clear hb5
        go_wp2_with fail
        go_ret
        exact ⟨ret_bool H.out.symm, hbr.out.trans Hb5.out⟩
      have hv := bxB_t h1 h2 (fun e => h3 (by have := hlen.out; rw [e] at this; exact this.symm))
      have hn0 : ((n' : Int) == 0) = false := by rw [beq_eq_false_iff_ne]; omega
      clear h1 h2 h3
      rcases k with _ | k
      · have H : Hid (BUpto X 1) := BUpto.one ha hv
        clear ha hv
        rw [Nat.zero_mul, Nat.add_zero] at hz0 hz1
        go_wp2_with fail
        refine wp_region_later (B := w.heap.size) (by kernel_rfl) (by kernel_rfl) ?_
        repeat (go_big_quiet_step ((first | (go_at_call 102; exact Later.sNV _ H1.out Hsm.out) | (go_at_call 111; exact Later.sIds _ A' n' c' a.2 H2.out HF.out hsz hm'))))
        refine wpQuiet_nil ?_
        intro _ hw'
        obtain ⟨⟨w5, hb5⟩, hw''⟩ := hw'
        subst hw''
        have Hb5 := hide hb5
        clear hb5
        go_wp2_with fail
        go_roundw
        case rel => exact ⟨1, by omega, by go_num, H, hbr.out.trans Hb5.out⟩
        case measure => simp [intOf]; omega
      · obtain ⟨r, hr⟩ : ∃ r, X[k]? = some r := ⟨X[k]'(by have := hl.out; omega), List.getElem?_eq_getElem _⟩
        obtain ⟨g', off', A2, n2, c2, e1, _, hr0, _⟩ := (HX.out.below hbr.out).at' hr
        injection e1 with e1
        injection e1 with e1 e2
        subst e1 e2
        have hz2 : ∀ z : Later w.heap.size wr, z.it.cell? ⟨g, off + k * 2, none⟩ = some (.string r.1) := fun z => (z.cell hg).trans hr0
        have hk1 : (k : Int) + 1 < (n : Int) := by omega
        cases hrs : blt r.1 a.1
        · have H : Hid (bxsB X = false) := bxsB_turn hr ha hrs
          have hrs' : Op.bytesLess r.1.toList a.1.toList = false := hrs
          clear ha hr hv hrs hr0
          go_wp2_with fail
          refine wp_region_later (B := w.heap.size) (by kernel_rfl) (by kernel_rfl) ?_
          repeat (go_big_quiet_step ((first | (go_at_call 102; exact Later.sNV _ H1.out Hsm.out) | (go_at_call 111; exact Later.sIds _ A' n' c' a.2 H2.out HF.out hsz hm'))))
          refine wpQuiet_nil ?_
          intro _ hw'
          obtain ⟨⟨w5, hb5⟩, hw''⟩ := hw'
          subst hw''
          have Hb5 := hide hb5
          clear hb5
          go_wp2_with fail
          go_ret
          exact ⟨ret_bool H.out.symm, hbr.out.trans Hb5.out⟩
        · have H : Hid (BUpto X (k + 2)) := hu.out.more hr ha hv hrs
          have hrs' : Op.bytesLess r.1.toList a.1.toList = true := hrs
          clear ha hr hv hrs hr0
          go_wp2_with fail
          refine wp_region_later (B := w.heap.size) (by kernel_rfl) (by kernel_rfl) ?_
          repeat (go_big_quiet_step ((first | (go_at_call 102; exact Later.sNV _ H1.out Hsm.out) | (go_at_call 111; exact Later.sIds _ A' n' c' a.2 H2.out HF.out hsz hm'))))
          refine wpQuiet_nil ?_
          intro _ hw'
          obtain ⟨⟨w5, hb5⟩, hw''⟩ := hw'
          subst hw''
          have Hb5 := hide hb5
          clear hb5
          go_wp2_with fail
          go_roundw
          case rel => exact ⟨k + 2, by omega, by go_num, H, hbr.out.trans Hb5.out⟩
          case measure => simp [intOf]; omega
    · have H : Hid (bxsB X = decide ((n : Int) ≤ 10)) := by
        have h1 := hu.out
        have h2 := hl.out
        rw [show k = n by omega, ← h2] at h1
        by_cases h6 : X.length ≤ 10
        · exact (h1.all h6).trans (by simp; omega)
        · exact (bxsB_len (by omega)).trans (by simp; omega)
      go_wp2_with fail
      go_ret
      exact ⟨ret_bool H.out.symm, hbr.out⟩
end Go.Proofs.Ytimpmlmkhjeajaa

/- spec: l4Put, BoxPut, BoxesGet. -/
set_option linter.unusedVariables false
set_option linter.unusedSimpArgs false
namespace Go.Proofs.Ytimpmlmkhjeajaa
open Go.RowKit

/-- 'x[:k]' of whatever slice, its value. -/
theorem slice_to_run {P : Program} {t e : TypeId} {i : TypeInfo} (ht : P.underlying t = some (.slice e)) (hi : P.info? e = some i) (A : Option Addr) (n c k : Nat) (z : Int) (hz : z = (k : Int)) (hk : k ≤ n) (hnc : n ≤ c) (W : World) :
    (Instr.slice t (.slice A n c) none (some (.int .i64 z)) none).run P W = .ok (.slice A k c) W := by
  subst hz
  have hE : (if c = 0 then A else A.map (·.add (0 * i.size))) = A := by
    split
    · rfl
    · cases A with
      | none => rfl
      | some a => simp [Addr.add]
  have h1 := run_slice_h (P := P) W t A n c (by rw [ht, elem_of_underlying ht]) .i64 (k : Int) (by omega) (by omega)
  rw [h1, elem_of_underlying ht, size_run hi]
  simp only [Result.andThen, sliced, hE, Int.toNat_natCast, Nat.sub_zero]
theorem ints_snoc (L : List Int) (i : Int) : L.map (Value.int .i64) ++ [Value.int .i64 i] = (L ++ [i]).map (Value.int .i64) := by rw [List.map_append]; rfl
theorem ints_take {w : World} {base n c m : Nat} {A : Option Addr} {L : List Int} (h : w.ownsRow base 3 1 (.slice A n c) n (L.map (Value.int .i64))) (hm : m ≤ n) : w.ownsRow base 3 1 (.slice A m c) m ((L.take m).map (Value.int .i64)) := by
  have h1 := own_take h hm
  rw [Nat.mul_one, ← List.map_take] at h1
  exact h1

set_option maxHeartbeats 2000000 in
set_option maxRecDepth 100000 in
theorem s_put (A : Option Addr) (n c : Nat) (L : List Int) (id : Int) (w : World) (hX : Ints w w.heap.size A n L) (hn : n ≤ 1000) :
    Calls Try.prog 112 #[.slice A n c, .int .i64 id] w fun e w' => Own1I w (bput L id) e w' := by
  obtain ⟨i1, hi1, hy0, hy1, hy2⟩ := info_parts' int_info
  have hU := Try.underlying47
  have hl := hide hX.1
  have HX := hide hX
  clear hX
  have H0 : Hid (Below w.heap.size w (w.alloc (.cells #[] 3))) := (Below.refl _ _).alloc (Nat.le_refl _) _
  have Own0 : Hid ((w.alloc (.cells #[] 3)).ownsRow w.heap.size 3 1 (.slice (some ⟨w.heap.size, 0, none⟩) 0 0) 0 (([] : List Int).map (Value.int .i64))) := World.ownsRow_lit w #[] 0 (Nat.le_refl _) (Nat.zero_le _) rfl
  go_enter Try.func112, Try.ntmps112
  go_wp2_with fail
  go_loopw [5, 6, 7] (fun u d i wr => ∃ (k m : Nat) (A4 : Option Addr) (c4 : Nat) (o : List Int) (b : Bool), k ≤ n ∧ i = .int .i64 k ∧ u = .slice A4 m c4 ∧ d = .bool b ∧ Hid (pst id L k = (o, b)) ∧ Hid (wr.ownsRow w.heap.size 3 1 (.slice A4 m c4) m (o.map (Value.int .i64))) ∧ m ≤ 2 * k ∧ Hid (Below w.heap.size w wr)) (fun _ _ i _ => n - (intOf i).toNat)
  case atStart => exact ⟨0, 0, _, _, [], false, Nat.zero_le _, rfl, rfl, rfl, rfl, Own0.out, by omega, H0.out⟩
  case round =>
    obtain ⟨k, m, A4, c4, o, b, hk, rfl, rfl, rfl, hp, hown, hm, hbr⟩ := hrel
    have hsz := hbr.out.size
    by_cases hlt : k < n
    · obtain ⟨a, ha⟩ : ∃ a, L[k]? = some a := ⟨L[k]'(by have := hl.out; omega), List.getElem?_eq_getElem _⟩
      obtain ⟨g, off, rfl, hg, hcw⟩ := HX.out.at' ha
      have Hcw := hide hcw
      have hc0 : wr.cell? ⟨g, off + k, none⟩ = some (.int .i64 a) := (hbr.out.cell (p := ⟨g, off + k, none⟩) hg).trans hcw
      have hS := pst_succ (id := id) ha
      rw [hp.out] at hS
      clear hcw ha
      cases b
      · by_cases h1 : a ≤ id
        · by_cases h2 : a = id
          · subst h2
            have HS : Hid (pst a L (k + 1) = (o ++ [a], true)) := hS.trans (by simp [pstep])
            clear hS h1
            go_wp2_with (
              (at_builtin
               skip; (refine wpList_append_rd _ rfl (.tmp 25) (.tmp 27) _ rfl w.heap.size 3 i1 _ 1 8 hU hi1 hy0 hy1 hy2 rfl (by omega) (.slice A4 m c4) m (o.map (Value.int .i64)) rfl (hown.out.alloc _) (wr.heap.size + 1) (some ⟨wr.heap.size, 0, none⟩) 1 _ [Value.int .i64 a] rfl (Rd.one _ _ _) (one_ints [a]) (by unfold maxLen; omega) (by omega) (by simp; omega) ?_)
               intro v7 w7 own7 gr7 at7
               skip; (have Hb7 : Hid (Below w.heap.size w w7) := Below.own (hbr.out.alloc (by omega) _) gr7 (hown.out.alloc _) (Nat.le_refl _) (by simp; omega))
               skip; (have hs7 := Hb7.out.size)
               skip; (obtain ⟨A7, c7, e7⟩ := own_slice own7)
               skip; (subst e7)
               skip; (rw [ints_snoc o a] at own7)
               skip; (have Own7 := hide own7)
               (have hc7 : w7.cell? ⟨g, off + k, none⟩ = some (.int .i64 a) := (Hb7.out.cell (p := ⟨g, off + k, none⟩) hg).trans Hcw.out)
               clear gr7 at7 own7)
              )
            go_roundw
            case rel => exact ⟨k + 1, m + 1, A7, c7, _, true, by omega, by go_num, rfl, rfl, HS.out, Own7.out, by omega, Hb7.out⟩
            case measure => simp [intOf]; omega
          · have HS : Hid (pst id L (k + 1) = (o ++ [id] ++ [a], true)) := hS.trans (by simp [pstep, h1, h2])
            clear hS
            go_wp2_with (first
              |
                (at_builtin
                 skip; (refine wpList_append_rd _ rfl (.tmp 25) (.tmp 27) _ rfl w.heap.size 3 i1 _ 1 8 hU hi1 hy0 hy1 hy2 rfl (by omega) (.slice A4 m c4) m (o.map (Value.int .i64)) rfl (hown.out.alloc _) (wr.heap.size + 1) (some ⟨wr.heap.size, 0, none⟩) 1 _ [Value.int .i64 id] rfl (Rd.one _ _ _) (one_ints [id]) (by unfold maxLen; omega) (by omega) (by simp; omega) ?_)
                 intro v7 w7 own7 gr7 at7
                 skip; (have Hb7 : Hid (Below w.heap.size w w7) := Below.own (hbr.out.alloc (by omega) _) gr7 (hown.out.alloc _) (Nat.le_refl _) (by simp; omega))
                 skip; (have hs7 := Hb7.out.size)
                 skip; (obtain ⟨A7, c7, e7⟩ := own_slice own7)
                 skip; (subst e7)
                 skip; (rw [ints_snoc o id] at own7)
                 skip; (have Own7 := hide own7)
                 (have hc7 : w7.cell? ⟨g, off + k, none⟩ = some (.int .i64 a) := (Hb7.out.cell (p := ⟨g, off + k, none⟩) hg).trans Hcw.out)
                 clear gr7 at7 own7)
              |
                (at_builtin
                 go_must (refine wpList_append_rd _ rfl (.tmp 35) (.tmp 40) _ rfl w.heap.size 3 i1 _ 1 8 hU hi1 hy0 hy1 hy2 rfl (by omega) (.slice A7 (m + 1) c7) (m + 1) ((o ++ [id]).map (Value.int .i64)) rfl (Own7.out.alloc _) (w7.heap.size + 1) (some ⟨w7.heap.size, 0, none⟩) 1 _ [Value.int .i64 a] rfl (Rd.one _ _ _) (one_ints [a]) (by unfold maxLen; omega) (by omega) (by simp; omega) ?_)
                 intro v8 w8 own8 gr8 at8
                 go_must (have Hb8 : Hid (Below w.heap.size w w8) := Below.own (Hb7.out.alloc (by omega) _) gr8 (Own7.out.alloc _) (Nat.le_refl _) (by simp; omega))
                 go_must (have hs8 := Hb8.out.size)
                 go_must (obtain ⟨A8, c8, e8⟩ := own_slice own8)
                 go_must (subst e8)
                 go_must (rw [ints_snoc (o ++ [id]) a] at own8)
                 go_must (have Own8 := hide own8)
                 skip
                 clear gr8 at8 own8)
              )
            go_roundw
            case rel => exact ⟨k + 1, m + 2, A8, c8, _, true, by omega, by go_num, rfl, rfl, HS.out, Own8.out, by omega, Hb8.out⟩
            case measure => simp [intOf]; omega
        · have h2 : a ≠ id := by omega
          have HS : Hid (pst id L (k + 1) = (o ++ [a], false)) := hS.trans (by simp [pstep, h1, h2])
          clear hS
          go_wp2_with (
            (at_builtin
             skip; (refine wpList_append_rd _ rfl (.tmp 35) (.tmp 40) _ rfl w.heap.size 3 i1 _ 1 8 hU hi1 hy0 hy1 hy2 rfl (by omega) (.slice A4 m c4) m (o.map (Value.int .i64)) rfl (hown.out.alloc _) (wr.heap.size + 1) (some ⟨wr.heap.size, 0, none⟩) 1 _ [Value.int .i64 a] rfl (Rd.one _ _ _) (one_ints [a]) (by unfold maxLen; omega) (by omega) (by simp; omega) ?_)
             intro v7 w7 own7 gr7 at7
             skip; (have Hb7 : Hid (Below w.heap.size w w7) := Below.own (hbr.out.alloc (by omega) _) gr7 (hown.out.alloc _) (Nat.le_refl _) (by simp; omega))
             skip; (have hs7 := Hb7.out.size)
             skip; (obtain ⟨A7, c7, e7⟩ := own_slice own7)
             skip; (subst e7)
             skip; (rw [ints_snoc o a] at own7)
             skip; (have Own7 := hide own7)
             skip
             clear gr7 at7 own7)
            )
          go_roundw
          case rel => exact ⟨k + 1, m + 1, A7, c7, _, false, by omega, by go_num, rfl, rfl, HS.out, Own7.out, by omega, Hb7.out⟩
          case measure => simp [intOf]; omega
      · by_cases h2 : a = id
        · subst h2
          have HS : Hid (pst a L (k + 1) = (o, true)) := hS.trans (by simp [pstep])
          clear hS
          go_wp2_with fail
          go_roundw
          case rel => exact ⟨k + 1, m, A4, c4, _, true, by omega, by go_num, rfl, rfl, HS.out, hown.out, by omega, hbr.out⟩
          case measure => simp [intOf]; omega
        · have HS : Hid (pst id L (k + 1) = (o ++ [a], true)) := hS.trans (by simp [pstep, h2])
          clear hS
          go_wp2_with (
            (at_builtin
             skip; (refine wpList_append_rd _ rfl (.tmp 35) (.tmp 40) _ rfl w.heap.size 3 i1 _ 1 8 hU hi1 hy0 hy1 hy2 rfl (by omega) (.slice A4 m c4) m (o.map (Value.int .i64)) rfl (hown.out.alloc _) (wr.heap.size + 1) (some ⟨wr.heap.size, 0, none⟩) 1 _ [Value.int .i64 a] rfl (Rd.one _ _ _) (one_ints [a]) (by unfold maxLen; omega) (by omega) (by simp; omega) ?_)
             intro v7 w7 own7 gr7 at7
             skip; (have Hb7 : Hid (Below w.heap.size w w7) := Below.own (hbr.out.alloc (by omega) _) gr7 (hown.out.alloc _) (Nat.le_refl _) (by simp; omega))
             skip; (have hs7 := Hb7.out.size)
             skip; (obtain ⟨A7, c7, e7⟩ := own_slice own7)
             skip; (subst e7)
             skip; (rw [ints_snoc o a] at own7)
             skip; (have Own7 := hide own7)
             skip
             clear gr7 at7 own7)
            )
          go_roundw
          case rel => exact ⟨k + 1, m + 1, A7, c7, _, true, by omega, by go_num, rfl, rfl, HS.out, Own7.out, by omega, Hb7.out⟩
          case measure => simp [intOf]; omega
    · have hkn : k = L.length := by have := hl.out; omega
      have hcap := (own_cap hown.out).1
      cases b
      · have HB : Hid (bput L id = (o ++ [id]).take 6) := by show _ = _; unfold bput; rw [← hkn, hp.out]; simp
        have hlo : (o ++ [id]).length = m + 1 := by have h := hown.out.1; rw [List.length_map] at h; simp; omega
        by_cases h6 : 6 < m + 1
        · have h6i : (6 : Int) < (m : Int) + 1 := by omega
          go_wp2_with (
            (at_builtin
             skip; (refine wpList_append_rd _ rfl (.tmp 44) (.tmp 46) _ rfl w.heap.size 3 i1 _ 1 8 hU hi1 hy0 hy1 hy2 rfl (by omega) (.slice A4 m c4) m (o.map (Value.int .i64)) rfl (hown.out.alloc _) (wr.heap.size + 1) (some ⟨wr.heap.size, 0, none⟩) 1 _ [Value.int .i64 id] rfl (Rd.one _ _ _) (one_ints [id]) (by unfold maxLen; omega) (by omega) (by simp; omega) ?_)
             intro v7 w7 own7 gr7 at7
             skip; (have Hb7 : Hid (Below w.heap.size w w7) := Below.own (hbr.out.alloc (by omega) _) gr7 (hown.out.alloc _) (Nat.le_refl _) (by simp; omega))
             skip; (have hs7 := Hb7.out.size)
             skip; (obtain ⟨A7, c7, e7⟩ := own_slice own7)
             skip; (subst e7)
             skip; (rw [ints_snoc o id] at own7)
             skip; (have Own7 := hide own7)
             (have hcp7 := (own_cap own7).1)
             clear gr7 at7 own7)
            )
          go_ret
          have h := Own7.out
          exact ⟨_, rfl, ⟨_, _, _, rfl, by rw [HB.out]; exact ints_take h (by omega)⟩, Hb7.out⟩
        · have h6i : (m : Int) + 1 ≤ 6 := by omega
          go_wp2_with (
            (at_builtin
             skip; (refine wpList_append_rd _ rfl (.tmp 44) (.tmp 46) _ rfl w.heap.size 3 i1 _ 1 8 hU hi1 hy0 hy1 hy2 rfl (by omega) (.slice A4 m c4) m (o.map (Value.int .i64)) rfl (hown.out.alloc _) (wr.heap.size + 1) (some ⟨wr.heap.size, 0, none⟩) 1 _ [Value.int .i64 id] rfl (Rd.one _ _ _) (one_ints [id]) (by unfold maxLen; omega) (by omega) (by simp; omega) ?_)
             intro v7 w7 own7 gr7 at7
             skip; (have Hb7 : Hid (Below w.heap.size w w7) := Below.own (hbr.out.alloc (by omega) _) gr7 (hown.out.alloc _) (Nat.le_refl _) (by simp; omega))
             skip; (have hs7 := Hb7.out.size)
             skip; (obtain ⟨A7, c7, e7⟩ := own_slice own7)
             skip; (subst e7)
             skip; (rw [ints_snoc o id] at own7)
             skip; (have Own7 := hide own7)
             (have hcp7 := (own_cap own7).1)
             clear gr7 at7 own7)
            )
          go_ret
          have h := Own7.out
          exact ⟨_, rfl, ⟨_, _, _, rfl, by rw [HB.out, List.take_of_length_le (by omega)]; exact h⟩, Hb7.out⟩
      · have HB : Hid (bput L id = o.take 6) := by show _ = _; unfold bput; rw [← hkn, hp.out]; simp
        have hlo : o.length = m := by have h := hown.out.1; rw [List.length_map] at h; omega
        by_cases h6 : 6 < m
        · have h6i : (6 : Int) < (m : Int) := by omega
          go_wp2_with fail
          go_ret
          exact ⟨_, rfl, ⟨_, _, _, rfl, by rw [HB.out]; exact ints_take hown.out (by omega)⟩, hbr.out⟩
        · have h6i : (m : Int) ≤ 6 := by omega
          go_wp2_with fail
          go_ret
          exact ⟨_, rfl, ⟨_, _, _, rfl, by rw [HB.out, List.take_of_length_le (by omega)]; exact hown.out⟩, hbr.out⟩

end Go.Proofs.Ytimpmlmkhjeajaa

/- Drawing boxes. -/
set_option linter.unusedVariables false
set_option linter.unusedSimpArgs false
namespace Go.Proofs.Ytimpmlmkhjeajaa
open Go.RowKit

theorem own_leni {w : World} {base m : Nat} {e : TypeId} {v : Value} {L : List Int} (h : w.ownsRow base e 1 v m (L.map (Value.int .i64))) : L.length = m := by have := h.1; rw [List.length_map, Nat.mul_one] at this; exact this
set_option maxHeartbeats 2000000 in
set_option maxRecDepth 100000 in
theorem ids_any (g p : Nat) (w : World) (hr : Rdr 125 w g p) (hp : p ≤ 900000) :
    Calls Try.prog 108 #[.pointer (some ⟨g, 0, none⟩)] w fun e w' => ∃ v L p', e = .returned v ∧ OwnI w.heap.size w' v L ∧ L.length ≤ 6 ∧ p' ≤ p + 20 ∧ Rdr 125 w' g p' ∧ But w.heap.size g w w' := by
  obtain ⟨i1, hi1, hy0, hy1, hy2⟩ := info_parts' int_info
  have hU := Try.underlying47
  have hg := hr.lt
  have Own0 : Hid ((w.alloc (.cells #[] 3)).ownsRow w.heap.size 3 1 (.slice (some ⟨w.heap.size, 0, none⟩) 0 0) 0 (([] : List Int).map (Value.int .i64))) := World.ownsRow_lit w #[] 0 (Nat.le_refl _) (Nat.zero_le _) rfl
  have Hb0 := hide (But.of_below (g := g) ((Below.refl w.heap.size w).alloc (Nat.le_refl _) (.cells #[] 3)))
  go_enter Try.func108, Try.ntmps108
  go_wp2_with fail
  refine (pick_any g p 7 _ (hr.alloc _) (by omega) (by omega) (by omega)).mono ?_
  rintro e w2 ⟨⟨N, hN, rfl⟩, hr2, hb2⟩
  have Hb2 := hide (Hb0.out.trans (hb2.mono (by simp)))
  have Own2 := hide (own_but Own0.out hb2 hg)
  clear hb2
  go_wp2_with fail
  refine (pick_any g (p + 1) 10 _ hr2 (by omega) (by omega) (by omega)).mono ?_
  rintro e w3 ⟨⟨k10, hk10, rfl⟩, hr3, hb3⟩
  have Hb3 := hide (Hb2.out.trans (hb3.mono Hb2.out.size))
  have Own3 := hide (own_but Own2.out hb3 hg)
  clear hb3
  go_wp2_with fail
  go_loopw [3, 5, 6] (fun v id i wr => ∃ (k p' : Nat) (z : Int) (L : List Int) (A : Option Addr) (c : Nat), k ≤ N ∧ i = .int .i64 k ∧ id = .int .i64 z ∧ 30 - 3 * (k : Int) ≤ z ∧ z ≤ 40 ∧ v = .slice A k c ∧ Hid (wr.ownsRow w.heap.size 3 1 (.slice A k c) k (L.map (Value.int .i64))) ∧ p' ≤ p + 4 + 2 * k ∧ Rdr 125 wr g p' ∧ Hid (But w.heap.size g w wr)) (fun _ _ i _ => N - (intOf i).toNat)
  case atStart => exact ⟨0, p + 1 + 1, 30 + k10, [], some ⟨w.heap.size, 0, none⟩, 0, Nat.zero_le _, rfl, rfl, by omega, by omega, rfl, Own3.out, by omega, hr3, Hb3.out⟩
  case round =>
    obtain ⟨k, p', z, L, A4, c4, hk, rfl, rfl, hz1, hz2, rfl, hown, hp', hr5, hbut⟩ := hrel
    have hbs := hbut.out.size
    by_cases hlt : k < N
    · have b1 : k + 1 ≤ maxLen := by unfold maxLen; omega
      have b2 : (k + 1) * 8 ≤ 140737488355328 := by omega
      go_wp2_with (first
       | (at_builtin
          refine wpList_append_rd _ rfl (.tmp 18) (.tmp 20) _ rfl w.heap.size 3 i1 _ 1 8 hU hi1 hy0 hy1 hy2 rfl (by omega) (.slice A4 k c4) k (L.map (Value.int .i64)) rfl (hown.out.alloc _) (wr.heap.size + 1) (some ⟨wr.heap.size, 0, none⟩) 1 _ [Value.int .i64 z] rfl (Rd.one _ _ _) (one_ints [z]) b1 b2 (by simp; omega) ?_
          intro v7 w7 own7 gr7 at7
          rw [ints_snoc L z] at own7
          obtain ⟨A7, c7, e7⟩ := own_slice own7
          subst e7
          have Hown7 := hide own7
          have Hr7 := hide ((hr5.alloc _).own gr7 (hown.out.alloc _) hg)
          have Hb7 := hide ((hbut.out.alloc hbs _).own gr7 (hown.out.alloc _) (Nat.le_refl _) (by simp; omega))
          clear gr7 at7 own7)
       | fail)
      refine (pick_any g p' 3 _ Hr7.out (by omega) (by omega) (by omega)).mono ?_
      rintro e w8 ⟨⟨k8, hk8, rfl⟩, hr8, hb8⟩
      have Hown8 := hide (own_but Hown7.out hb8 hg)
      have Hb8 := hide (Hb7.out.trans (hb8.mono Hb7.out.size))
      clear hb8
      go_wp2_with fail
      go_roundw
      case rel => exact ⟨k + 1, p' + 1, z - 1 - k8, _, A7, c7, by omega, by go_num, by go_num, by omega, by omega, rfl, Hown8.out, by omega, hr8, Hb8.out⟩
      case measure => simp [intOf]; omega
    · obtain rfl : k = N := by omega
      have hlL : Hid (L.length = k) := own_leni hown.out
      by_cases hN1 : 1 < k
      · go_wp2_with fail
        refine (pick_any g p' 30 _ hr5 (by omega) (by omega) (by omega)).mono ?_
        rintro e w5 ⟨⟨k5, hk5, rfl⟩, hr6, hb6⟩
        have Hown5 := hide (own_but hown.out hb6 hg)
        have Hb5 := hide (hbut.out.trans (hb6.mono hbs))
        clear hb6
        by_cases h5 : k5 = 0
        · subst h5
          obtain ⟨gX, capX, eX, hgX, hgX2⟩ := Hown5.out.form (by omega)
          injection eX with eX1 _ eX3
          subst eX1 eX3
          obtain ⟨a, ha⟩ : ∃ a, L[0]? = some a := ⟨L[0]'(by have := hlL.out; omega), List.getElem?_eq_getElem _⟩
          obtain ⟨b, hb⟩ : ∃ b, L[1]? = some b := ⟨L[1]'(by have := hlL.out; omega), List.getElem?_eq_getElem _⟩
          have c0 : w5.cell? ⟨gX, 0, none⟩ = some (.int .i64 a) := (Hown5.out.cellAt 0 (by omega)).trans (by rw [List.getElem?_map, ha]; rfl)
          have c1 : w5.cell? ⟨gX, 1, none⟩ = some (.int .i64 b) := (Hown5.out.cellAt 1 (by omega)).trans (by rw [List.getElem?_map, hb]; rfl)
          have f0 : w5.frozen? ⟨gX, 0, none⟩ = false := Hown5.out.frozenAt 0
          have hst := Hown5.out.stored 0 (.int .i64 b)
          rw [show (L.map (Value.int .i64)).set 0 (.int .i64 b) = (L.set 0 b).map (Value.int .i64) by rw [List.map_set]] at hst
          have Hst := hide hst.1
          have Hbs := hide (Hb5.out.trans ⟨hst.2.os, hst.2.tape, hst.2.output, hst.2.size, fun q hq _ => hst.2.block q (by have := Hb5.out.size; omega) (fun e => by injection e; omega)⟩)
          have Hrs := hide (hr6.below (B := g + 1) ⟨hst.2.os, hst.2.tape, hst.2.output, hst.2.size, fun q hq => hst.2.block q (by have := hr6.lt; omega) (fun e => by injection e; omega)⟩ (by omega))
          clear hst ha hb
          go_wp2_with fail
          go_ret
          exact ⟨_, _, p' + 1, rfl, ⟨_, _, _, rfl, Hst.out⟩, by rw [List.length_set]; have := hlL.out; omega, by omega, Hrs.out, Hbs.out⟩
        · have hk50 : ((k5 : Int) == 0) = false := by rw [beq_eq_false_iff_ne]; omega
          go_wp2_with fail
          go_ret
          exact ⟨_, _, p' + 1, rfl, ⟨_, _, _, rfl, Hown5.out⟩, by have := hlL.out; omega, by omega, hr6, Hb5.out⟩
      · go_wp2_with fail
        go_ret
        exact ⟨_, rfl, L, ⟨_, _, _, rfl, hown.out⟩, by have := hlL.out; omega, p', by omega, hr5, hbut.out⟩
end Go.Proofs.Ytimpmlmkhjeajaa

/- Drawing boxes: l91Boxes, DrawBoxPut, DrawBoxesPut, DrawBoxesGet, DrawBoxesValid. -/
set_option linter.unusedVariables false
set_option linter.unusedSimpArgs false
namespace Go.Proofs.Ytimpmlmkhjeajaa
open Go.RowKit

/-- A further box, its numbers in a block from B0 on, all others below. -/
theorem NestB.snoc2 {base B0 n c m : Nat} {A : Option Addr} {Y : List BxV} {w6 w7 : World} {nm : ByteArray} {L : List Int} {v6 v7 : Value} {T : TypeId} (hY6 : NestB base w6 A n c Y) (hfr : ∀ q, WBlk (.slice A n c) Y q → q < B0) (h6 : w6.ownsRow B0 3 1 v6 m (L.map (Value.int .i64))) (hbase : base ≤ B0)
    (own7 : w7.ownsRow base 55 2 v7 (n + 1) (wcells Y ++ [.string nm, v6])) (gr7 : (w6.alloc (.cells #[.string nm, v6] T)).grownBy w7 (Value.slice A n c).ownBlock)
    (at7 : v7.ownBlock = (Value.slice A n c).ownBlock ∨ v7.ownBlock = some (w6.alloc (.cells #[.string nm, v6] T)).heap.size) : ∃ A7 c7, v7 = .slice A7 (n + 1) c7 ∧ NestB base w7 A7 (n + 1) c7 (Y ++ [(nm, L, v6)]) := by
  have hgs := gr7.size
  simp only [World.size_alloc] at hgs
  have hm : L.length = m := own_leni h6
  have o6' := h6.alloc (.cells #[.string nm, v6] T)
  have hbl6 : ∀ q, v6.ownBlock = some q → B0 ≤ q ∧ q < w6.heap.size := fun q hq => h6.lt q hq
  have kept7 : ∀ {e : TypeId} {size m : Nat} {v : Value} {xs : List Value}, (w6.alloc (.cells #[.string nm, v6] T)).ownsRow base e size v m xs → (∀ q, v.ownBlock = some q → (Value.slice A n c).ownBlock ≠ some q) → w7.ownsRow base e size v m xs := by
    intro e size m v xs ho hne
    refine ho.kept gr7 ?_
    cases hv : v.ownBlock with
    | none => exact .inl rfl
    | some q => exact .inr (fun e => hne q hv e.symm)
  obtain ⟨A7, c7, rfl⟩ := own_slice own7
  have hat : ∀ q, (q < w6.heap.size) → (Value.slice A n c).ownBlock ≠ some q → (Value.slice A7 (n + 1) c7).ownBlock ≠ some q := by
    intro q hq hne
    rcases at7 with e | e
    · rw [e]; exact hne
    · rw [e]; intro h; simp at h; omega
  refine ⟨A7, c7, rfl, ?_, ?_, ?_, ?_⟩
  · rw [wcells_app]; exact own7
  · intro y hy
    rcases List.mem_append.1 hy with h1 | h1
    · exact kept7 ((hY6.ids y h1).alloc _) (fun q hq => hY6.far y h1 q hq)
    · rw [List.mem_singleton.1 h1]
      rw [show ((nm, L, v6) : BxV).2.1.length = m from hm]
      exact kept7 (own_base o6' hbase) (fun q hq e => by have := hbl6 q hq; have := hfr q (.inl e); omega)
  · intro y hy q hq
    rcases List.mem_append.1 hy with h1 | h1
    · exact hat q (by have := (hY6.ids y h1).lt q hq; omega) (hY6.far y h1 q hq)
    · rw [List.mem_singleton.1 h1] at hq
      exact hat q (hbl6 q hq).2 (fun e => by have := hbl6 q hq; have := hfr q (.inl e); omega)
  · rw [List.pairwise_append]
    refine ⟨hY6.two, List.pairwise_singleton _ _, fun y hy z hz q hq e => ?_⟩
    rw [List.mem_singleton.1 hz] at e
    have h1 := hfr q (.inr ⟨y, hy, hq⟩)
    have h2 := hbl6 q e
    omega
/-- The numbers of the first box are none, in a new block. -/
theorem NestB.ids0 {base n c gX : Nat} {Y : List BxV} {y : BxV} {w : World} (h : NestB base w (some ⟨gX, 0, none⟩) n c Y) (hy : Y[0]? = some y) (hb : base ≤ w.heap.size) :
    NestB base ((w.alloc (.cells #[] 3)).setCell ⟨gX, 1, none⟩ (.slice (some ⟨w.heap.size, 0, none⟩) 0 0)) (some ⟨gX, 0, none⟩) n c (Y.set 0 (y.1, [], .slice (some ⟨w.heap.size, 0, none⟩) 0 0)) := by
  have hgX := h.row.lt gX rfl
  have h9 := h.alloc (.cells #[] 3)
  have s1 := h9.row.stored 1 (.slice (some ⟨w.heap.size, 0, none⟩) 0 0)
  have e1 := wcells_set1 (k := 0) [] (.slice (some ⟨w.heap.size, 0, none⟩) 0 0) hy
  rw [show 0 * 2 + 1 = 1 from rfl] at e1
  rw [e1] at s1
  have gr : ∀ v, (w.alloc (.cells #[] 3)).grownBy ((w.alloc (.cells #[] 3)).setCell ⟨gX, 1, none⟩ v) (some gX) := fun v => ⟨rfl, rfl, rfl, by simp, fun k _ hk => heap_setCell_other _ ⟨gX, 1, none⟩ k v (fun e => hk (by simp [e]))⟩
  have new : (w.alloc (.cells #[] 3)).ownsRow base 3 1 (.slice (some ⟨w.heap.size, 0, none⟩) 0 0) 0 (([] : List Int).map (Value.int .i64)) := World.ownsRow_lit w #[] 0 hb (Nat.zero_le _) rfl
  have newne : ∀ z ∈ Y, ∀ b, z.2.2.ownBlock = some b → b < w.heap.size := fun z hz b hzb => ((h.ids z hz).lt b hzb).2
  refine ⟨s1.1, fun z hz => ?_, fun z hz d hd => ?_, ?_⟩
  · rcases List.mem_or_eq_of_mem_set hz with h1 | rfl
    · exact (h9.ids z h1).kept (gr _) (.inr (fun e => h.far z h1 _ e rfl))
    · exact new.kept (gr _) (.inr (fun e => by simp [Value.ownBlock] at e; omega))
  · rcases List.mem_or_eq_of_mem_set hz with h1 | rfl
    · exact h.far z h1 d hd
    · intro e; simp [Value.ownBlock] at hd e; omega
  · cases Y with
    | nil => simp at hy
    | cons y0 Y =>
      rw [List.set_cons_zero, List.pairwise_cons]
      have ht := List.pairwise_cons.1 h.two
      refine ⟨fun z hz d hd e => ?_, ht.2⟩
      simp [Value.ownBlock] at hd
      subst hd
      exact absurd (newne z (List.mem_cons_of_mem _ hz) _ e) (by omega)

/-- What is drawn is small. -/
def BDrawn (M : Nat) (X : List Bx) : Prop := X.length ≤ M ∧ ∀ a ∈ X, a.1.size ≤ 5 ∧ a.2.length ≤ 6
theorem BDrawn.small {M : Nat} {X : List Bx} (h : BDrawn M X) : BSmall X := fun a ha => by have := (h.2 a ha).1; unfold maxLen; omega
theorem BDrawn.more {M M' : Nat} {X : List Bx} (h : BDrawn M X) (hm : M ≤ M') : BDrawn M' X := ⟨Nat.le_trans h.1 hm, h.2⟩
theorem BDrawn.snoc {M : Nat} {X : List Bx} {s : ByteArray} {L : List Int} (h : BDrawn M X) (hs : s.size ≤ 5) (hL : L.length ≤ 6) : BDrawn (M + 1) (X ++ [(s, L)]) := by
  refine ⟨by have := h.1; simp; omega, fun a ha => ?_⟩
  rcases List.mem_append.1 ha with h2 | h2
  · exact h.2 a h2
  · rw [List.mem_singleton.1 h2]; exact ⟨hs, hL⟩
theorem bxV_set0 {Y : List BxV} {y : BxV} {u : Value} (hy : Y[0]? = some y) {M : Nat} (h : BDrawn M (bxV Y)) : BDrawn M (bxV (Y.set 0 (y.1, [], u))) := by
  cases Y with
  | nil => simp at hy
  | cons y0 Y =>
    simp at hy
    subst hy
    refine ⟨by have := h.1; simpa [bxV] using this, fun a ha => ?_⟩
    rcases List.mem_cons.1 (show a ∈ (y0.1, ([] : List Int)) :: bxV Y from ha) with rfl | h1
    · exact ⟨(h.2 (y0.1, y0.2.1) (by simp [bxV])).1, by simp⟩
    · exact h.2 a (List.mem_cons_of_mem _ h1)

set_option maxHeartbeats 2000000 in
set_option maxRecDepth 100000 in
theorem boxes_any (g p : Nat) (w : World) (hr : Rdr 125 w g p) (hp : p ≤ 800000) :
    Calls Try.prog 73 #[.pointer (some ⟨g, 0, none⟩)] w fun e w' => ∃ A n c Y p', e = .returned (.slice A n c) ∧ NestB w.heap.size w' A n c Y ∧ BDrawn 6 (bxV Y) ∧ p' ≤ p + 200 ∧ Rdr 125 w' g p' ∧ But w.heap.size g w w' := by
  obtain ⟨i2, hi2, hz0, hz1, hz2⟩ := info_parts' box_info
  have hUB := Try.underlying41
  have hg := hr.lt
  have hlit0 : Lit ((w.alloc (.cells #[] 55)).alloc (.cells #[.string { data := #[97, 110, 110] }, .string { data := #[98, 111, 98] }, .string { data := #[99, 97, 116] }, .string { data := #[100, 97, 110] }, .string { data := #[101, 118, 101] }, .string { data := #[120] }] 9)) (w.heap.size + 1) 6 := by
    refine ⟨#[.string { data := #[97, 110, 110] }, .string { data := #[98, 111, 98] }, .string { data := #[99, 97, 116] }, .string { data := #[100, 97, 110] }, .string { data := #[101, 118, 101] }, .string { data := #[120] }], ?_, rfl, by decide⟩
    have h := Blk.new (w.alloc (.cells #[] 55)) 9
    rw [World.size_alloc] at h
    exact h _
  have Hlit0 := hide hlit0
  have HN0 : Hid (NestB w.heap.size ((w.alloc (.cells #[] 55)).alloc (.cells #[.string { data := #[97, 110, 110] }, .string { data := #[98, 111, 98] }, .string { data := #[99, 97, 116] }, .string { data := #[100, 97, 110] }, .string { data := #[101, 118, 101] }, .string { data := #[120] }] 9)) (some ⟨w.heap.size, 0, none⟩) 0 0 []) :=
    NestB.alloc ⟨World.ownsRow_lit w #[] 0 (Nat.le_refl _) (Nat.zero_le _) rfl, fun y h => (by cases h), fun y h => (by cases h), List.Pairwise.nil⟩ _
  have Hb0 := hide (But.of_below (g := g) (((Below.refl w.heap.size w).alloc (Nat.le_refl _) (.cells #[] 55)).alloc (by simp) (.cells #[.string { data := #[97, 110, 110] }, .string { data := #[98, 111, 98] }, .string { data := #[99, 97, 116] }, .string { data := #[100, 97, 110] }, .string { data := #[101, 118, 101] }, .string { data := #[120] }] 9)))
  clear hlit0
  go_enter Try.func73, Try.ntmps73
  go_wp2_with fail
  go_loopw [3, 5, 6] (fun v i _ wr => ∃ (k m p' : Nat) (A4 : Option Addr) (c4 : Nat) (Y : List BxV), k ≤ 6 ∧ i = .int .i64 k ∧ v = .slice A4 m c4 ∧ m ≤ k ∧ (Value.slice A4 m c4).ownBlock ≠ some (w.heap.size + 1) ∧ Hid (NestB w.heap.size wr A4 m c4 Y) ∧ Hid (BDrawn k (bxV Y)) ∧ p' ≤ p + 21 * k ∧ Rdr 125 wr g p' ∧ Hid (But w.heap.size g w wr) ∧ Hid (Lit wr (w.heap.size + 1) 6) ∧ w.heap.size + 1 < wr.heap.size) (fun _ i _ _ => 6 - (intOf i).toNat)
  case atStart => exact ⟨0, 0, p, _, _, [], by omega, rfl, rfl, Nat.le_refl _, by simp [Value.ownBlock], HN0.out, ⟨Nat.le_refl _, fun a h => by cases h⟩, by omega, (hr.alloc _).alloc _, Hb0.out, Hlit0.out, by simp⟩
  case round =>
    obtain ⟨k, m, p', A4, c4, Y, hk, rfl, rfl, hmk, hnb, hN, hdr, hp', hr2, hbut, hlit, hs2⟩ := hrel
    have hbs := hbut.out.size
    by_cases hlt : k < 6
    · go_wp2_with fail
      refine (pick_any g p' 2 _ hr2 (by omega) (by omega) (by omega)).mono ?_
      rintro e w3 ⟨⟨q, hq, rfl⟩, hr3, hb3⟩
      have hs3 := hb3.size
      have HN3 := hide (hN.out.but hb3 hg)
      have Hb3 := hide (hbut.out.trans (hb3.mono hbs))
      have Hlit3 := hide (hlit.out.but hb3 (by omega))
      clear hb3
      by_cases hq0 : q = 0
      rotate_left
      · have f0 : ((q : Int) == 0) = false := by rw [beq_eq_false_iff_ne]; omega
        clear hq0
        go_wp2_with fail
        go_roundw
        case rel => exact ⟨k + 1, m, p' + 1, A4, c4, Y, by omega, by go_num, rfl, by omega, hnb, HN3.out, hdr.out.more (by omega), by omega, hr3, Hb3.out, Hlit3.out, by omega⟩
        case measure => simp [intOf]; omega
      subst hq0
      go_wp2_with fail
      refine (ids_any g (p' + 1) _ hr3 (by omega)).mono ?_
      rintro e w6 ⟨v6, L, p6, rfl, ⟨A6, n6, c6, rfl, own6⟩, hL6, hp6, hr6, hb6⟩
      have hs6 := hb6.size
      have hlen6 : L.length = n6 := own_leni own6
      have HN6 := hide (HN3.out.but hb6 hg)
      have Hfr : Hid (∀ q, WBlk (.slice A4 m c4) Y q → q < w3.heap.size) := fun q hq => (HN3.out.lt hq).2
      have Hb6 := hide (Hb3.out.trans (hb6.mono Hb3.out.size))
      have Hlit6 := hide (Hlit3.out.but hb6 (by omega))
      have Own6 := hide own6
      clear own6 hb6
      obtain ⟨nm, hnm, hcn⟩ := Hlit6.out.cell hlt
      have hb36 := Hb3.out.size
      by_cases hn0 : n6 = 0
      · have f1 : ¬ ((0 : Int) < (n6 : Int)) := by omega
        clear hn0
        go_wp2_with fail
        go_roundw
        case rel => exact ⟨k + 1, m, p6, A4, c4, Y, by omega, by go_num, rfl, by omega, hnb, HN6.out, hdr.out.more (by omega), by omega, hr6, Hb6.out, Hlit6.out, by omega⟩
        case measure => simp [intOf]; omega
      have f1 : ((0 : Int) < (n6 : Int)) := by omega
      clear hn0
      go_wp2_with (first
       | (at_builtin
          refine wpList_append_rd _ rfl (.tmp 23) (.tmp 30) _ rfl w.heap.size 55 i2 _ 2 40 hUB hi2 hz0 hz1 hz2 rfl (by omega) (.slice A4 m c4) m (wcells Y) rfl (HN6.out.row.alloc _) (w6.heap.size + 1) (some ⟨w6.heap.size, 0, none⟩) 1 _ [Value.string nm, .slice A6 n6 c6] rfl (rd_two _ _ _ _) (by intro u hu; simp at hu; rcases hu with rfl | rfl <;> rfl) (by unfold maxLen; omega) (by omega) (by simp; omega) ?_
          intro v7 w7 own7 gr7 at7
          obtain ⟨A7, c7, e7, N7⟩ := NestB.snoc2 HN6.out Hfr.out Own6.out (by omega) own7 gr7 at7
          subst e7
          have HN7 := hide N7
          have Hr7 := hide ((hr6.alloc _).own gr7 (HN6.out.row.alloc _) hg)
          have Hb7 := hide ((Hb6.out.alloc (by omega) _).own gr7 (HN6.out.row.alloc _) (Nat.le_refl _) (by simp; omega))
          have Hlit7 : Hid (Lit w7 (w.heap.size + 1) 6) := by
            obtain ⟨cs, l1, l2, l3⟩ := Hlit6.out
            exact ⟨cs, (l1.alloc _).own gr7 hnb, l2, l3⟩
          have hs7 : w.heap.size + 1 < w7.heap.size := by have h := gr7.size; simp at h; omega
          have hnb7 : (Value.slice A7 (m + 1) c7).ownBlock ≠ some (w.heap.size + 1) := by
            rcases at7 with e | e
            · rw [e]; exact hnb
            · rw [e]; intro h; simp at h; omega
          clear gr7 at7 own7 N7)
       | fail)
      go_roundw
      case rel => exact ⟨k + 1, m + 1, p6, A7, c7, _, by omega, by go_num, rfl, by omega, hnb7, HN7.out, by rw [bxV_app]; exact hdr.out.snoc hnm hL6, by omega, Hr7.out, Hb7.out, Hlit7.out, hs7⟩
      case measure => simp [intOf]; omega
    · by_cases hm0 : m = 0
      · have f1 : ¬ ((0 : Int) < (m : Int)) := by omega
        clear hm0
        go_wp2_with fail
        go_ret
        exact ⟨_, _, _, rfl, Y, hN.out, hdr.out.more hk, p', by omega, hr2, hbut.out⟩
      have f1 : ((0 : Int) < (m : Int)) := by omega
      go_wp2_with fail
      refine (pick_any g p' 40 _ hr2 (by omega) (by omega) (by omega)).mono ?_
      rintro e w3 ⟨⟨q, hq, rfl⟩, hr3, hb3⟩
      have hs3 := hb3.size
      have HN3 := hide (hN.out.but hb3 hg)
      have Hb3 := hide (hbut.out.trans (hb3.mono hbs))
      clear hb3
      by_cases hq0 : q = 0
      rotate_left
      · have f0 : ((q : Int) == 0) = false := by rw [beq_eq_false_iff_ne]; omega
        clear hq0
        go_wp2_with fail
        go_ret
        exact ⟨_, _, _, Y, p' + 1, rfl, HN3.out, hdr.out.more hk, by omega, hr3, Hb3.out⟩
      subst hq0
      obtain ⟨gX, capX, eX, hgX, hgX2⟩ := HN3.out.row.form (by omega)
      injection eX with eX1 _ eX3
      subst eX1 eX3
      have hly := HN3.out.len
      obtain ⟨y, hy⟩ : ∃ y, Y[0]? = some y := ⟨Y[0]'(by omega), List.getElem?_eq_getElem _⟩
      have hba := (Below.refl w3.heap.size w3).alloc (Nat.le_refl _) (.cells #[] 3)
      have hc1 : (w3.alloc (.cells #[] 3)).cell? ⟨gX, 1, none⟩ = some y.2.2 := (hba.cell (p := ⟨gX, 1, none⟩) hgX2).trans ((HN3.out.row.cellAt 1 (by omega)).trans (wcells_at hy).2)
      have hf1 : (w3.alloc (.cells #[] 3)).frozen? ⟨gX, 1, none⟩ = false := (hba.frozen (p := ⟨gX, 1, none⟩) hgX2).trans (HN3.out.row.frozenAt 1)
      have hc1' : w3.cell? ⟨gX, 1, none⟩ = some y.2.2 := (HN3.out.row.cellAt 1 (by omega)).trans (wcells_at hy).2
      have hf1' : w3.frozen? ⟨gX, 1, none⟩ = false := HN3.out.row.frozenAt 1
      have hb3s := Hb3.out.size
      have hN5 := HN3.out.ids0 hy (by omega)
      have hgr : (w3.alloc (.cells #[] 3)).grownBy ((w3.alloc (.cells #[] 3)).setCell ⟨gX, 1, none⟩ (.slice (some ⟨w3.heap.size, 0, none⟩) 0 0)) (some gX) := ⟨rfl, rfl, rfl, by simp, fun k _ hk => heap_setCell_other _ ⟨gX, 1, none⟩ k _ (fun e => hk (by simp [e]))⟩
      have hB5 := Hb3.out.trans ((But.of_below (g := g) (hba.mono (by omega))).trans ⟨hgr.os, hgr.tape, hgr.output, hgr.size, fun q hq _ => hgr.block q (by simp; omega) (fun e => by injection e; omega)⟩)
      have hR5 := (hr3.alloc (.cells #[] 3)).below (B := g + 1) ⟨hgr.os, hgr.tape, hgr.output, hgr.size, fun q hq => hgr.block q (by have := hr3.lt; simp; omega) (fun e => by injection e; omega)⟩ (by omega)
      rw [World.setCell_alloc_past _ _ _ _ hgX2] at hN5 hB5 hR5
      have HN5 := hide hN5
      have HB5 := hide hB5
      have HR5 := hide hR5
      have Hd5 := hide (bxV_set0 (u := .slice (some ⟨w3.heap.size, 0, none⟩) 0 0) hy (hdr.out.more hk))
      clear hN5 hB5 hR5 hgr hba
      go_wp2_with fail
      go_ret
      exact ⟨_, _, _, _, p' + 1, rfl, HN5.out, Hd5.out, by omega, HR5.out, HB5.out⟩

/-- Boxes were drawn. -/
def DrawnB (w : World) (v : Value) (X : List Bx) (w' : World) : Prop := ∃ A n c, v = .slice A n c ∧ Bxs w' w'.heap.size A n X ∧ n ≤ c ∧ c ≤ maxLen ∧ BDrawn 6 X ∧ Below w.heap.size w w'
theorem DrawnB.mk {w w1 w2 : World} {A : Option Addr} {n c : Nat} {Y : List BxV} (h : NestB w1.heap.size w2 A n c Y) (hd : BDrawn 6 (bxV Y)) (hb : Below w.heap.size w w1) (hb2 : But w1.heap.size w.heap.size w1 w2) (hg : w.heap.size < w1.heap.size) : DrawnB w (.slice A n c) (bxV Y) w2 :=
  ⟨A, n, c, rfl, h.bxs, (own_cap h.row).1, (own_cap h.row).2, hd, hb.trans (hb2.below.mono (by omega))⟩

end Go.Proofs.Ytimpmlmkhjeajaa

/- sameBox, sameBoxes of boxes and themselves. -/
set_option linter.unusedVariables false
set_option linter.unusedSimpArgs false
namespace Go.Proofs.Ytimpmlmkhjeajaa
open Go.RowKit

set_option maxHeartbeats 1000000 in
theorem l_sameB (a : Bx) (A : Option Addr) (n c : Nat) (B : Option Addr) (m d : Nat) (w : World) (hA : Ints w w.heap.size A n a.2) (hB : Ints w w.heap.size B m a.2) (hn : n ≤ maxLen) (hm : m ≤ maxLen) :
    Calls Try.prog 79 #[.agg #[.string a.1, .slice A n c], .agg #[.string a.1, .slice B m d]] w fun e w' => e = .returned (.bool true) ∧ Below w.heap.size w w' := by
  have Hbel : ∀ T S, Hid (Below w.heap.size w ((w.alloc (.cells #[.string a.1, .slice A n c] T)).alloc (.cells #[.string a.1, .slice B m d] S))) := fun T S => hide (((Below.refl _ _).alloc (Nat.le_refl _) _).alloc (by simp) _)
  have HA := hide hA
  have HB := hide hB
  clear hA hB
  go_enter Try.func79, Try.ntmps79
  go_wp2_with fail
  refine (l_sameI A n c B m d a.2 _ (HA.out.on (Hbel _ _).out) (HB.out.on (Hbel _ _).out) hn).mono ?_
  rintro e w4 ⟨rfl, q4, rfl⟩
  go_wp2_with fail
  go_ret
  exact ⟨rfl, below_drewN (Hbel _ _).out q4⟩

theorem Later.sameB {B0 : Nat} {W : World} (z : Later B0 W) (a : Bx) (A : Option Addr) (n c : Nat) (B : Option Addr) (m d : Nat) (hA : Ints W B0 A n a.2) (hB : Ints W B0 B m a.2) (h0 : B0 ≤ W.heap.size) (hn : n ≤ maxLen) (hm : m ≤ maxLen) :
    Calls Try.prog 79 #[.agg #[.string a.1, .slice A n c], .agg #[.string a.1, .slice B m d]] z.it fun e w'' => e = .returned (.bool true) ∧ ∃ z' : Later B0 W, w'' = z'.it := by
  have hsz := z.below.size
  exact Later.call ((l_sameB a A n c B m d z.it ((hA.below z.below).more (by omega)) ((hB.below z.below).more (by omega)) hn hm).mono fun e w' ⟨h1, h2⟩ => ⟨h1, h2.mono (by omega)⟩)

set_option maxHeartbeats 1000000 in
theorem l_sameBs (A : Option Addr) (n c : Nat) (B : Option Addr) (m d : Nat) (X : List Bx) (w : World) (hA : Bxs w w.heap.size A n X) (hB : Bxs w w.heap.size B m X) (hn : n ≤ maxLen) :
    Calls Try.prog 32 #[.slice A n c, .slice B m d] w fun e w' => e = .returned (.bool true) ∧ Below w.heap.size w w' := by
  unfold maxLen at hn
  have hl := hide hA.1
  have hnm : n = m := hA.1.symm.trans hB.1
  subst hnm
  have HA := hide hA
  have HB := hide hB
  clear hA hB
  go_enter Try.func32, Try.ntmps32
  go_wp2_with fail
  go_loopw [5] (fun i wr => ∃ k : Nat, k ≤ n ∧ i = .int .i64 k ∧ Hid (Below w.heap.size w wr)) (fun i _ => n - (intOf i).toNat)
  case atStart => exact ⟨0, Nat.zero_le _, rfl, Below.refl _ _⟩
  case round =>
    obtain ⟨k, hk, rfl, hbr⟩ := hrel
    by_cases hlt : k < n
    · obtain ⟨a, ha⟩ : ∃ a, X[k]? = some a := ⟨X[k]'(by have := hl.out; omega), List.getElem?_eq_getElem _⟩
      obtain ⟨g, off, A4, n4, c4, rfl, hg, hc0, hc1, hn4, hm4, hf⟩ := (HA.out.below hbr.out).at' ha
      obtain ⟨g2, off2, A5, n5, c5, rfl, hg2, hd0, hd1, hn5, hm5, hf2⟩ := (HB.out.below hbr.out).at' ha
      have hz0 : ∀ z : Later w.heap.size wr, z.it.cell? ⟨g, off + k * 2, none⟩ = some (.string a.1) := fun z => (z.cell hg).trans hc0
      have hz1 : ∀ z : Later w.heap.size wr, z.it.cell? ⟨g, off + k * 2 + 1, none⟩ = some (.slice A4 n4 c4) := fun z => (z.cell hg).trans hc1
      have hz2 : ∀ z : Later w.heap.size wr, z.it.cell? ⟨g2, off2 + k * 2, none⟩ = some (.string a.1) := fun z => (z.cell hg2).trans hd0
      have hz3 : ∀ z : Later w.heap.size wr, z.it.cell? ⟨g2, off2 + k * 2 + 1, none⟩ = some (.slice A5 n5 c5) := fun z => (z.cell hg2).trans hd1
      have HF : Hid (Ints wr w.heap.size A4 n4 a.2) := hf.ints
      have HF2 : Hid (Ints wr w.heap.size A5 n5 a.2) := hf2.ints
      have hsz := hbr.out.size
      clear hf hf2 hc0 hc1 hd0 hd1 ha
      go_wp2_with fail
      refine wp_region_later (B := w.heap.size) (by kernel_rfl) (by kernel_rfl) ?_
      repeat (go_big_quiet_step ((go_at_call 79; exact Later.sameB _ a A4 n4 c4 A5 n5 c5 HF.out HF2.out hsz hm4 hm5)))
      refine wpQuiet_nil ?_
      intro _ hw'
      obtain ⟨⟨w5, hb5⟩, hw''⟩ := hw'
      subst hw''
      have Hb5 := hide hb5
      clear hb5
      go_wp2_with fail
      go_roundw
      case rel => exact ⟨k + 1, by omega, by go_num, hbr.out.trans Hb5.out⟩
      case measure => simp [intOf]; omega
    · go_wp2_with fail
      go_ret
      exact ⟨rfl, hbr.out⟩
end Go.Proofs.Ytimpmlmkhjeajaa

/- Boxes as a row of cells. -/
set_option linter.unusedVariables false
set_option linter.unusedSimpArgs false
namespace Go.Proofs.Ytimpmlmkhjeajaa
open Go.RowKit

theorem nat_mod (m n : Nat) (hn : 0 < n) : ∃ k : Nat, (m : Int) % (n : Int) = k ∧ (m : Int).tmod n = k ∧ k < n :=
  ⟨m % n, by rw [Int.natCast_emod], by rw [Int.natCast_emod]; exact Int.tmod_eq_emod_of_nonneg (by omega), Nat.mod_lt _ hn⟩
theorem b40 {m : Nat} (h : m ≤ 100) : m ≤ maxLen ∧ m * 40 ≤ 140737488355328 := ⟨by unfold maxLen; omega, Nat.le_trans (Nat.mul_le_mul_right 40 h) (by decide)⟩
theorem wcells_take (X : List BxV) (k : Nat) : (wcells X).take (k * 2) = wcells (X.take k) := by
  have e := wcells_app (X.take k) (X.drop k)
  rw [List.take_append_drop] at e
  rcases Nat.lt_or_ge X.length k with h | h
  · rw [List.take_of_length_le (by rw [wcells_len]; omega), List.take_of_length_le (by omega)]
  · rw [e, List.take_append_of_le_length (by rw [wcells_len, List.length_take]; omega), List.take_of_length_le (by rw [wcells_len, List.length_take]; omega)]
theorem wcells_drop (X : List BxV) (k : Nat) : (wcells X).drop (k * 2) = wcells (X.drop k) := by
  have e := wcells_app (X.take k) (X.drop k)
  rw [List.take_append_drop] at e
  rcases Nat.lt_or_ge X.length k with h | h
  · rw [List.drop_of_length_le (by rw [wcells_len]; omega), List.drop_of_length_le (by omega)]; rfl
  · rw [e, List.drop_append_of_le_length (by rw [wcells_len, List.length_take]; omega), List.drop_of_length_le (by rw [wcells_len, List.length_take]; omega)]; rfl
theorem bxV_take (Y : List BxV) (k : Nat) : bxV (Y.take k) = (bxV Y).take k := List.map_take
theorem bxV_drop (Y : List BxV) (k : Nat) : bxV (Y.drop k) = (bxV Y).drop k := List.map_drop

/-- A row of boxes: the cells as read, and each one's numbers. -/
def RdB (w : World) (B : Nat) (A : Option Addr) (n : Nat) (Y : List BxV) : Prop := Rd w B 2 A n (wcells Y) ∧ ∀ y ∈ Y, Fli w (· < B) y.2.2 y.2.1
/-- The numbers alone. -/
def FlB (w : World) (B : Nat) (Y : List BxV) : Prop := ∀ y ∈ Y, Fli w (· < B) y.2.2 y.2.1
section
variable {w w' : World} {A : Option Addr} {n B B' : Nat} {X : List Bx} {Y Z : List BxV}
theorem FlB.below (h : FlB w B Y) (hb : Below B w w') : FlB w' B Y := fun y hy => (h y hy).keep fun _ hp => hb.cell hp
theorem FlB.more (h : FlB w B Y) (hB : B ≤ B') : FlB w B' Y := fun y hy => (h y hy).more fun _ hg => Nat.lt_of_lt_of_le hg hB
theorem FlB.take (h : FlB w B Y) (k : Nat) : FlB w B (Y.take k) := fun y hy => h y (List.mem_of_mem_take hy)
theorem FlB.drop (h : FlB w B Y) (k : Nat) : FlB w B (Y.drop k) := fun y hy => h y (List.mem_of_mem_drop hy)
theorem FlB.app (h : FlB w B Y) (h2 : FlB w B Z) : FlB w B (Y ++ Z) := fun y hy => (List.mem_append.1 hy).elim (h y) (h2 y)
theorem FlB.one (h : FlB w B Y) : ∀ u ∈ wcells Y, u.oneCell' = true := by
  intro u hu
  obtain ⟨a, ha, h1⟩ := List.mem_flatMap.1 hu
  simp at h1
  rcases h1 with rfl | rfl
  · rfl
  · obtain ⟨A, n, c, e, _⟩ := h a ha
    rw [e]; rfl
theorem BxsP.rdB (h : Bxs w B A n X) : ∃ Y, bxV Y = X ∧ Rd w B 2 A n (wcells Y) ∧ FlB w B Y := by
  rcases Nat.eq_zero_or_pos n with h0 | h0
  · subst h0
    obtain rfl : X = [] := List.eq_nil_of_length_eq_zero h.1
    exact ⟨[], rfl, Rd.nil, fun y hy => by cases hy⟩
  · obtain ⟨g, off, e, hb, hc⟩ := h.2 h0
    have hat : ∀ j, (X.mapIdx fun j a => ((a.1, a.2, (w.cell? ⟨g, off + j * 2 + 1, none⟩).getD undef) : BxV))[j]? = (X[j]?).map fun a => (a.1, a.2, (w.cell? ⟨g, off + j * 2 + 1, none⟩).getD undef) := fun j => List.getElem?_mapIdx
    refine ⟨X.mapIdx fun j a => (a.1, a.2, (w.cell? ⟨g, off + j * 2 + 1, none⟩).getD undef), ?_, ?_, ?_⟩
    · refine List.ext_getElem? fun j => ?_
      unfold bxV
      rw [List.getElem?_map, hat]
      cases X[j]? <;> rfl
    · refine ⟨by rw [wcells_len, List.length_mapIdx, h.1], fun _ => ⟨g, off, e, hb, fun j u hu => ?_⟩⟩
      have hj := (List.getElem?_eq_some_iff.1 hu).1
      rw [wcells_len, List.length_mapIdx] at hj
      obtain ⟨q, hq⟩ : ∃ q, q = j / 2 := ⟨_, rfl⟩
      obtain ⟨a, ha⟩ : ∃ a, X[q]? = some a := ⟨X[q]'(by omega), List.getElem?_eq_getElem _⟩
      have hy := hat q
      rw [ha] at hy
      have hp := wcells_at hy
      obtain ⟨c0, u', c1, _⟩ := hc _ a ha
      rcases Nat.mod_two_eq_zero_or_one j with e0 | e0
      · obtain rfl : j = q * 2 := by omega
        rw [hp.1] at hu; cases hu; exact c0
      · obtain rfl : j = q * 2 + 1 := by omega
        rw [hp.2] at hu; cases hu; rw [← Nat.add_assoc]
        rw [c1]; rfl
    · intro y hy
      obtain ⟨j, hj⟩ := List.mem_iff_getElem?.1 hy
      rw [hat] at hj
      obtain ⟨a, ha, rfl⟩ := Option.map_eq_some_iff.1 hj
      obtain ⟨c0, u', c1, hf⟩ := hc _ a ha
      rw [c1]
      exact hf
theorem BxsP.of_rdB (h : Rd w B 2 A n (wcells Y)) (hf : FlB w B Y) : Bxs w B A n (bxV Y) :=
  ⟨by have := h.1; rw [wcells_len] at this; rw [bxV_len]; omega, fun hn => by
    obtain ⟨g, off, e, hb, hc⟩ := h.2 hn
    refine ⟨g, off, e, hb, fun j a ha => ?_⟩
    obtain ⟨u, hu⟩ := bxV_at ha
    have hp := wcells_at hu
    exact ⟨hc _ _ hp.1, u, by rw [Nat.add_assoc]; exact hc _ _ hp.2, hf _ (List.mem_of_getElem? hu)⟩⟩
end
end Go.Proofs.Ytimpmlmkhjeajaa
