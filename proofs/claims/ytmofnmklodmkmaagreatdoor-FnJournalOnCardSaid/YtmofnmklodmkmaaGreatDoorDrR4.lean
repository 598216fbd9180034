/- Lists of records drawn. -/
import Derived.Test.YtmofnmklodmkmaaGreatDoorDrR3
import Derived.Test.YtmofnmklodmkmaaGreatDoorJr7
set_option linter.unusedVariables false
set_option linter.unusedSimpArgs false
namespace Go.Proofs.YtmofnmklodmkmaaGreatDoor
open Go.RowKit

/-- Short names. -/
def RShort (X : List Rec) : Prop := ∀ a ∈ X, a.2.2.2.1.size ≤ 1000 ∧ a.2.2.2.2.size ≤ 1000
theorem RShort.small {X : List Rec} (h : RShort X) : RSmall X := fun a ha => by
  have := h a ha
  unfold maxLen
  omega
theorem RShort.snoc {X : List Rec} {a : Rec} (h : RShort X) (h1 : a.2.2.2.1.size ≤ 1000) (h2 : a.2.2.2.2.size ≤ 1000) : RShort (X ++ [a]) := fun b hb => by
  rcases List.mem_append.1 hb with hb | hb
  · exact h b hb
  · rw [List.mem_singleton.1 hb]; exact ⟨h1, h2⟩

theorem rc_info : ∃ i, Tryz.prog.info? 28 = some i ∧ i.zero = some (.agg #[.int .i64 0, .int .i64 0, .int .i64 0, .string ByteArray.empty, .string ByteArray.empty]) ∧ i.size = 5 ∧ i.bytes = 56 := info_parts5 rec_info

set_option maxHeartbeats 4000000 in
set_option maxRecDepth 100000 in
theorem recs_any (g p : Nat) (w : World) (hr : Rdr 73 w g p) (hp : p ≤ 400000) :
    Calls Tryz.prog 22 #[.pointer (some ⟨g, 0, none⟩)] w fun e w' => ∃ v X p', e = .returned v ∧ OwnR w.heap.size w' v X ∧ X.length ≤ 6 ∧ RShort X ∧ p' ≤ p + 100 ∧ Rdr 73 w' g p' ∧ But w.heap.size g w w' := by
  obtain ⟨i1, hi1, hy0, hy1, hy2⟩ := rc_info
  have hU := Tryz.underlying23
  have hg := hr.lt
  have Own0 : Hid ((w.alloc (.cells #[] 28)).ownsRow w.heap.size 28 5 (.slice (some ⟨w.heap.size, 0, none⟩) 0 0) 0 (rcells [])) := World.ownsRow_lit w #[] 0 (Nat.le_refl _) (Nat.zero_le _) rfl
  have Hb0 := hide (But.of_below (g := g) ((Below.refl w.heap.size w).alloc (Nat.le_refl _) (.cells #[] 28)))
  go_enter Tryz.func22, Tryz.ntmps22
  go_wp2_with fail
  refine (pick_any g p 6 _ (hr.alloc _) (by omega) (by omega) (by omega)).mono ?_
  rintro e w2 ⟨⟨N, hN, rfl⟩, hr2, hb2⟩
  have Hb2 := hide (Hb0.out.trans (hb2.mono (by simp)))
  have Own2 := hide (own_but Own0.out hb2 hg)
  clear hb2
  go_wp2_with fail
  go_loopw [3, 5] (fun v i wr => ∃ (k m p' : Nat) (X : List Rec) (A : Option Addr) (c : Nat), k ≤ N ∧ m ≤ k ∧ i = .int .i64 k ∧ v = .slice A m c ∧ Hid (wr.ownsRow w.heap.size 28 5 (.slice A m c) m (rcells X)) ∧ Hid (RShort X) ∧ p' ≤ p + 1 + 12 * k ∧ Rdr 73 wr g p' ∧ Hid (But w.heap.size g w wr)) (fun _ i _ => N - (intOf i).toNat)
  case atStart => exact ⟨0, 0, p + 1, [], some ⟨w.heap.size, 0, none⟩, 0, Nat.zero_le _, Nat.zero_le _, rfl, rfl, Own2.out, (fun a ha => by cases ha), by omega, hr2, Hb2.out⟩
  case round =>
    obtain ⟨k, m, p', X, A4, c4, hk, hm, rfl, rfl, hown, hsh, hp', hr5, hbut⟩ := hrel
    rename_i wr
    have hbs := hbut.out.size
    by_cases hlt : k < N
    · have b1 : m + 1 ≤ maxLen := by unfold maxLen; omega
      have b2 : (m + 1) * 56 ≤ 140737488355328 := by omega
      go_wp2_with fail
      refine (rec_any g p' _ hr5 (by omega)).mono ?_
      rintro e w3 ⟨r1, r2, r3, r4, r5, p3, rfl, hJ, hp3, hr3, hb3⟩
      have Hown3 := hide (own_but hown.out hb3 hg)
      have Hb3 := hide (hbut.out.trans (hb3.mono hbs))
      have hs3 : w.heap.size ≤ w3.heap.size := Hb3.out.size
      have HQ3 := hide (Blk.new w3 28 #[.int .i64 r1, .int .i64 r2, .int .i64 r3, .string r4, .string r5])
      have h4 : r4.size ≤ 1000 := hJ.s9
      have h5 : r5.size ≤ 1000 := hJ.t9
      have HJ := hide hJ
      have hr4 := hr3.alloc (rC r1 r2 r3 r4 r5)
      have Hown4 := hide (Hown3.out.alloc (rC r1 r2 r3 r4 r5))
      have Hb4 := hide (Hb3.out.trans (But.of_below ((Below.refl _ w3).alloc hs3 (rC r1 r2 r3 r4 r5))))
      obtain ⟨⟨l0, l1, l2, l3, l4⟩, _⟩ := HQ3.out.cells5
      have HSn : Hid (RShort (X ++ [(r1, r2, r3, r4, r5)])) := hsh.out.snoc h4 h5
      clear hb3 hJ hr3
      go_wp2_with fail
      refine (s_RV r1 r2 r3 r4 r5 _ (by unfold maxLen; omega) (by unfold maxLen; omega)).mono ?_
      rintro e w6 ⟨rfl, hb6⟩
      have hs6 : w3.heap.size + 1 ≤ w6.heap.size := by have h := hb6.size; simpa using h
      have HQ6 := hide (HQ3.out.below hb6 (by simp))
      have Hr6 := hide (hr4.below hb6 (by simp; have := HJ.out; omega))
      have Hown6 := hide (Hown4.out.kept (row := none) (grown_of_below hb6) (by cases (Value.slice A4 m c4).ownBlock <;> simp))
      have Hb6 := hide (Hb4.out.trans (But.of_below (hb6.mono (by simp; omega))))
      clear hb6 hr4 l0 l1 l2 l3 l4
      obtain ⟨⟨l0, l1, l2, l3, l4⟩, _⟩ := HQ6.out.cells5
      cases hv : reB (r1, r2, r3, r4, r5)
      · clear hv
        go_wp2_with fail
        refine (pick_any g p3 10 _ Hr6.out (by omega) (by omega) (by omega)).mono ?_
        rintro e w8 ⟨⟨k8, hk8, rfl⟩, hr8, hb8⟩
        have Hown8 := hide (own_but Hown6.out hb8 hg)
        have HQ8 := hide (HQ6.out.but hb8 (by omega))
        have Hb8 := hide (Hb6.out.trans (hb8.mono Hb6.out.size))
        have Hr8 := hide hr8
        clear hb8 hr8 l0 l1 l2 l3 l4
        by_cases h8 : k8 = 0
        · subst h8
          obtain ⟨⟨l0, l1, l2, l3, l4⟩, _⟩ := HQ8.out.cells5
          go_wp2_with (
            (at_builtin
             refine wpList_append_rd _ rfl (.tmp 24) (.tmp 26) _ rfl w.heap.size 28 i1 _ 5 56 hU hi1 hy0 hy1 hy2 rfl (by omega) (.slice A4 m c4) m (rcells X) rfl (Hown8.out.alloc _) (w8.heap.size + 1) (some ⟨w8.heap.size, 0, none⟩) 1 _ (rcells [(r1, r2, r3, r4, r5)]) rfl (rd_five w8 _ (r1, r2, r3, r4, r5)) (rcells_one _) b1 b2 (by simp; have := Hb8.out.size; omega) ?_
             intro v7 w7 own7 gr7 at7
             rw [← rcells_app] at own7
             have Hown7 := hide own7
             have Hr7 := hide ((Hr8.out.alloc _).own gr7 (Hown8.out.alloc _) hg)
             have Hb7 := hide ((Hb8.out.alloc Hb8.out.size _).own gr7 (Hown8.out.alloc _) (Nat.le_refl _) (by simp; have := Hb8.out.size; omega))
             clear gr7 at7 own7))
          obtain ⟨A7, c7, e7⟩ := row_slice Hown7.out
          subst e7
          go_roundw
          case rel => exact ⟨k + 1, m + 1, p3 + 1, _, A7, c7, by omega, by omega, by go_num, rfl, Hown7.out, HSn.out, by omega, Hr7.out, Hb7.out⟩
          case measure => simp [intOf]; omega
        · have h8' : ¬ (k8 : Int) = 0 := by omega
          go_wp2_with fail
          go_roundw
          case rel => exact ⟨k + 1, m, p3 + 1, X, A4, c4, by omega, by omega, by go_num, rfl, Hown8.out, hsh.out, by omega, Hr8.out, Hb8.out⟩
          case measure => simp [intOf]; omega
      · clear hv
        go_wp2_with (
          (at_builtin
           refine wpList_append_rd _ rfl (.tmp 24) (.tmp 26) _ rfl w.heap.size 28 i1 _ 5 56 hU hi1 hy0 hy1 hy2 rfl (by omega) (.slice A4 m c4) m (rcells X) rfl (Hown6.out.alloc _) (w6.heap.size + 1) (some ⟨w6.heap.size, 0, none⟩) 1 _ (rcells [(r1, r2, r3, r4, r5)]) rfl (rd_five w6 _ (r1, r2, r3, r4, r5)) (rcells_one _) b1 b2 (by simp; have := Hb6.out.size; omega) ?_
           intro v7 w7 own7 gr7 at7
           rw [← rcells_app] at own7
           have Hown7 := hide own7
           have Hr7 := hide ((Hr6.out.alloc _).own gr7 (Hown6.out.alloc _) hg)
           have Hb7 := hide ((Hb6.out.alloc Hb6.out.size _).own gr7 (Hown6.out.alloc _) (Nat.le_refl _) (by simp; have := Hb6.out.size; omega))
           clear gr7 at7 own7))
        obtain ⟨A7, c7, e7⟩ := row_slice Hown7.out
        subst e7
        go_roundw
        case rel => exact ⟨k + 1, m + 1, p3, _, A7, c7, by omega, by omega, by go_num, rfl, Hown7.out, HSn.out, by omega, Hr7.out, Hb7.out⟩
        case measure => simp [intOf]; omega
    · go_wp2_with fail
      go_ret
      exact ⟨_, X, p', rfl, ⟨_, _, _, rfl, hown.out⟩, by have h := (Rcs.of_own hown.out).1; omega, hsh.out, by omega, hr5, hbut.out⟩

def limStr (M : Nat) : Value → Bool
  | .string s => decide (s.size ≤ M)
  | _ => false
theorem limStr_of {M : Nat} {v : Value} (h : limStr M v = true) : ∃ s : ByteArray, s.size ≤ M ∧ v = .string s := by
  cases v <;> simp [limStr] at h
  exact ⟨_, h, rfl⟩
set_option maxHeartbeats 1000000 in
set_option maxRecDepth 100000 in
theorem of_lim (M g p : Nat) (b n c : Nat) (cs : Array Value) (w : World) (hr : Rdr 73 w g p) (hp : p ≤ 1000000) (hb : Blk w b 9 cs) (hne : b ≠ g) (hn : cs.size = n) (h1 : 1 ≤ n) (h2 : n ≤ 1000000) (hs : cs.toList.all (limStr M) = true) :
    Calls Tryz.prog 32 #[.pointer (some ⟨g, 0, none⟩), .slice (some ⟨b, 0, none⟩) n c] w fun e w' => (∃ s : ByteArray, s.size ≤ M ∧ e = .returned (.string s)) ∧ Rdr 73 w' g (p + 1) ∧ But w.heap.size g w w' := by
  have HN := hide hn
  have HS := hide hs
  have HB := hide hb
  clear hn hs hb
  go_enter Tryz.func32, Tryz.ntmps32
  go_wp2_with fail
  refine (pick_any g p n _ hr hp h1 h2).mono ?_
  rintro e w1 ⟨⟨k, hk, rfl⟩, hr1, hbut⟩
  have hk' : k < cs.size := by have := HN.out; omega
  obtain ⟨s, hs5, hs⟩ := limStr_of (List.all_eq_true.1 HS.out cs[k] (by simp))
  have hc1 : w1.cell? ⟨b, k, none⟩ = some (.string s) := by
    rw [(show Blk w1 b _ cs from (hbut.block b HB.out.lt hne).trans HB.out).cell, Array.getElem?_eq_getElem hk', hs]
  clear hs
  go_wp2_with fail
  go_ret
  exact ⟨⟨s, hs5, rfl⟩, hr1, hbut⟩

theorem OwnR.base {b b' : Nat} {w : World} {v : Value} {X : List Rec} (h : OwnR b w v X) (hb : b' ≤ b) : OwnR b' w v X := by
  obtain ⟨A, n, c, rfl, h1⟩ := h
  exact ⟨_, _, _, rfl, own_base h1 hb⟩
set_option maxHeartbeats 1000000 in
set_option maxRecDepth 100000 in
theorem d_JournalText (A : Option Addr) (n c : Nat) (w : World) (hc : Code w w.heap.size A n) (hnc : n ≤ c) (hn : n ≤ 1048576) :
    Calls Tryz.prog 10 #[.slice A n c] w fun e w' => ∃ v X, e = .returned v ∧ OwnR w.heap.size w' v X ∧ X.length ≤ 6 ∧ RShort X ∧ Below w.heap.size w w' := by
  have Hc := hide hc
  clear hc
  go_enter Tryz.func10, Tryz.ntmps10
  go_wp2_with fail
  refine (open_any A n c _ Hc.out hnc hn).mono ?_
  rintro e w1 ⟨rfl, hr1, hb1⟩
  have Hb1 := hide hb1
  clear hb1
  go_wp2_with fail
  refine (recs_any w.heap.size 0 _ hr1 (by omega)).mono ?_
  rintro e w2 ⟨v, X, p2, rfl, hO, hX, hS, _, _, hb2⟩
  have HO := hide (hO.base Hb1.out.size)
  have Hb2 := hide (Hb1.out.trans (hb2.below.mono (by have := Hb1.out.size; omega)))
  clear hO hb2
  go_wp2_with fail
  go_ret
  exact ⟨v, X, rfl, HO.out, hX, hS, Hb2.out⟩

set_option maxHeartbeats 2000000 in
set_option maxRecDepth 100000 in
theorem d_JournalFrom (A : Option Addr) (n c : Nat) (w : World) (hc : Code w w.heap.size A n) (hnc : n ≤ c) (hn : n ≤ 1048576) :
    Calls Tryz.prog 16 #[.slice A n c] w fun e w' => ∃ s, e = .returned (.string s) ∧ s.size ≤ 1100 ∧ Below w.heap.size w w' := by
  have Hc := hide hc
  clear hc
  go_enter Tryz.func16, Tryz.ntmps16
  go_wp2_with fail
  refine (open_any A n c _ Hc.out hnc hn).mono ?_
  rintro e w1 ⟨rfl, hr1, hb1⟩
  have Hb1 := hide hb1
  have hlt1 := hr1.lt
  clear hb1
  go_wp2_with fail
  refine (recs_any w.heap.size 0 _ hr1 (by omega)).mono ?_
  rintro e w2 ⟨v, X, p2, rfl, hO, hX, hS, hp2, hr2, hb2⟩
  obtain ⟨A2, n2, c2, rfl, hn2, hnc2, hc2, hR2⟩ := hO.rcs
  have Hb2 := hide (Hb1.out.trans (hb2.below.mono (by have := Hb1.out.size; omega)))
  have hz2 : w.heap.size < w2.heap.size := hr2.lt
  have HR2 := hide hr2
  clear hb2 hO hr2
  go_wp2_with fail
  refine (s_JT A2 n2 c2 X _ hR2 hS.small (by unfold maxLen; omega)).mono ?_
  rintro e w3 ⟨rfl, hb3⟩
  have hT : (tb (jl X)).size ≤ 1000 := by
    rw [tb_size]
    cases hj : jB X
    · rw [jl_f hj]; simp
    · rw [jl_t hj]
      have := @jls_len X 0
      omega
  obtain ⟨T, hTT⟩ : ∃ T, tb (jl X) = T := ⟨_, rfl⟩
  rw [hTT] at hT ⊢
  have Hb3 := hide (Hb2.out.trans (hb3.mono (by omega)))
  have hr3 := HR2.out.below hb3 hz2
  have hz3 : w.heap.size < w3.heap.size := hr3.lt
  have HR3 := hide hr3
  clear hb3 hTT hR2 hS hr3
  cases he : emB T
  · have q0 : T.toList.isEmpty = false := (emB_eq T).trans he
    clear he
    go_wp2_with fail
    refine (ch_any w.heap.size p2 T _ hT HR3.out (by omega)).mono ?_
    rintro e w4 ⟨u, rfl, hu, hb4⟩
    have Hb4 := hide (Hb3.out.trans (hb4.below.mono (by omega)))
    clear hb4
    go_wp2_with fail
    go_ret
    exact ⟨u, rfl, hu, Hb4.out⟩
  · have q0 : T.toList.isEmpty = true := (emB_eq T).trans he
    clear he
    go_wp2_with fail
    with_reducible refine (of_lim 1100 w.heap.size p2 w3.heap.size _ _ _ _ (HR3.out.alloc _) (by omega) (by exact Blk.new w3 _ _) (by omega) ?hn (by omega) (by omega) ?hs).mono ?_
    case hn => rfl
    case hs => decide
    rintro e w4 ⟨⟨u, hu, rfl⟩, _, hb4⟩
    have Hb4 := hide (Hb3.out.trans (((Below.refl _ w3).alloc (Nat.le_refl _) _).mono (by omega) |>.trans (hb4.below.mono (by simp; omega))))
    clear hb4
    go_wp2_with fail
    go_ret
    exact ⟨u, rfl, hu, Hb4.out⟩
end Go.Proofs.YtmofnmklodmkmaaGreatDoor
