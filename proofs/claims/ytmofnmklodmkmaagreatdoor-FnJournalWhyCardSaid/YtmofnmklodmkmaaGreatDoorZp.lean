/- Texts joined: Ctl, Nrc, Ijf. -/
import Derived.Test.YtmofnmklodmkmaaGreatDoorJe
import Derived.Test.YtmofnmklodmkmaaGreatDoorLbs
import Derived.Lib.CutLaws
import Derived.Test.YtmofnmklodmkmaaGreatDoorIrg
import Derived.Test.YtmofnmklodmkmaaGreatDoorJww
import Derived.Test.YtmofnmklodmkmaaGreatDoorJr7
import Derived.Test.YtmofnmklodmkmaaGreatDoorAsE

/- strings.Cut at a newline: the first line, and what is behind it. -/
set_option linter.unusedVariables false
set_option linter.unusedSimpArgs false
namespace Go.Proofs.YtmofnmklodmkmaaGreatDoor
open Go.RowKit
theorem index_nl (s : Txt) : Lib.index s [10] = match nl s with | none => -1 | some (l, _) => (l.length : Int) := by
  induction s with
  | nil => rfl
  | cons c s ih =>
    unfold Lib.index nl
    by_cases h : c = 10
    · subst h
      simp
    · rw [if_neg (by simp [List.isPrefixOf]; exact fun e => h e.symm), if_neg h, ih]
      cases hn : nl s with
      | none => simp
      | some x =>
        have h0 : ¬ (((x.1.length : Nat) : Int) = -1) := by omega
        simp [h0]
theorem scut_none {s : Txt} (h : nl s = none) : Lib.cut s [10] = (s, [], false) := by
  have e := index_nl s
  rw [h] at e
  unfold Lib.cut
  rw [e, if_neg (by decide)]
theorem scut_some {s l r : Txt} (h : nl s = some (l, r)) : Lib.cut s [10] = (l, r, true) := by
  have e := index_nl s
  rw [h] at e
  obtain ⟨e1, _⟩ := nl_eq h
  unfold Lib.cut
  rw [e, if_pos (by show (0 : Int) ≤ ((l.length : Nat) : Int); omega)]
  show (List.take (Int.toNat ((l.length : Nat) : Int)) s, List.drop (Int.toNat ((l.length : Nat) : Int) + 1) s, true) = _
  rw [Int.toNat_natCast, e1]
  simp
/-- What strings.Cut at a newline gives. -/
def CEnd (s : ByteArray) (e : Ending) : Prop := (e = .returned (.tuple #[.string s, .string ⟨#[]⟩, .bool false]) ∧ (10 : UInt8) ∉ s.data.toList) ∨ ∃ l rest, e = .returned (.tuple #[.string (tb l), .string (tb rest), .bool true]) ∧ s.data.toList = l ++ 10 :: rest ∧ (10 : UInt8) ∉ l
theorem cut_call (s : ByteArray) (hs : s.size ≤ 1048576) (w : World) (hV : Vw w) :
    Calls Tryz.prog 51 #[.string s, .string ⟨#[10]⟩] w fun e w' => CEnd s e ∧ ∃ n, w' = w.drewN n := by
  obtain ⟨m, hm⟩ := hV.len
  refine (Any.strings_Cut scuL s ⟨#[10]⟩ m w (by omega) hm).mono ?_
  rintro e w' ⟨h1, h2⟩
  refine ⟨?_, h2⟩
  have e10 : (⟨#[10]⟩ : ByteArray).data.toList = [10] := rfl
  rw [e10] at h1
  cases hn : nl s.data.toList with
  | none =>
    rw [scut_none hn] at h1
    refine .inl ⟨?_, nl_not hn⟩
    have h : (⟨s.data.toList.toArray⟩ : ByteArray) = s := tb_list s
    exact h1.trans (congrArg (fun z => Ending.returned (.tuple #[.string z, .string ⟨#[]⟩, .bool false])) h)
  | some x =>
    obtain ⟨l, r⟩ := x
    rw [scut_some hn] at h1
    obtain ⟨e1, e2⟩ := nl_eq hn
    exact .inr ⟨l, r, h1, e1, e2⟩
end Go.Proofs.YtmofnmklodmkmaaGreatDoor

/- The next record of a journal: the program's. -/
set_option linter.unusedVariables false
set_option linter.unusedSimpArgs false
namespace Go.Proofs.YtmofnmklodmkmaaGreatDoor
open Go.RowKit
/-- What the next record gives. -/
def NRec (T : Txt) (p : Int) (w : World) (e : Ending) (w' : World) : Prop :=
  ((∃ why : Int, e = .returned (.tuple #[rV 0 0 0 ⟨#[]⟩ ⟨#[]⟩, .string ⟨#[]⟩, .iface 57 (.agg #[.int .i64 why])]) ∧ ∀ (O : List Rec) (k : Nat), p = (O.length : Int) + 1 → jg O k T = (O, k, why))
    ∨ ∃ (r : Rec) (n : Nat), e = .returned (.tuple #[reV r, .string (tb (T.drop n)), .nilIface]) ∧ 1 ≤ n ∧ n ≤ T.length ∧ ∀ (O : List Rec) (k : Nat), p = (O.length : Int) + 1 → jg O k T = jg (O ++ [r]) (k + n) (T.drop n))
  ∧ Below w.heap.size w w'

set_option maxHeartbeats 2000000 in
set_option maxRecDepth 100000 in
theorem i_NR (s : ByteArray) (p : Int) (w : World) (hs : s.size ≤ 1048576) (hne : s.data.toList ≠ []) (hV : Vw w) :
    Calls Tryz.prog 30 #[.string s, .int .i64 p] w fun e w' => NRec s.data.toList p w e w' := by
  have HS := hide hs
  have HV := hide hV
  have HNE := hide hne
  have HB0 := hide (Blk.new w 28 #[.int .i64 0, .int .i64 0, .int .i64 0, .string ⟨#[]⟩, .string ⟨#[]⟩])
  have Hb0 := hide ((Below.refl w.heap.size w).alloc (Nat.le_refl _) (.cells #[.int .i64 0, .int .i64 0, .int .i64 0, .string ⟨#[]⟩, .string ⟨#[]⟩] 28))
  clear hs hV hne
  go_enter Tryz.func30, Tryz.ntmps30
  go_wp2_with fail
  refine (cut_call s HS.out _ (HV.out.on Hb0.out)).mono ?_
  rintro e w1 ⟨hC, n1, hw1⟩
  have HB1 : Hid (Blk w1 w.heap.size 28 #[.int .i64 0, .int .i64 0, .int .i64 0, .string ⟨#[]⟩, .string ⟨#[]⟩]) := by rw [hw1]; exact HB0.out
  have Hb1 : Hid (Below w.heap.size w w1) := by rw [hw1]; exact ⟨Hb0.out.os, Hb0.out.tape, Hb0.out.output, Hb0.out.size, Hb0.out.block⟩
  have hz1 : w.heap.size + 1 ≤ w1.heap.size := by rw [hw1]; show _ ≤ (w.alloc _).heap.size; simp
  clear hw1 HB0 Hb0
  rcases hC with ⟨rfl, hno⟩ | ⟨l, rest, rfl, hdr, hnl⟩
  · have HH : Hid (∀ (O : List Rec) (k : Nat), p = (O.length : Int) + 1 → jg O k s.data.toList = (O, k, jTorn)) := fun O k _ => jg_torn HNE.out hno
    clear hno
    have Hbe := hide (below_put5 Hb1.out (Nat.le_refl _) (.int .i64 0) (.int .i64 0) (.int .i64 0) (.string ⟨#[]⟩) (.string ⟨#[]⟩))
    obtain ⟨⟨c0, c1, c2, c3, c4⟩, f0, f1, f2, f3, f4⟩ := HB1.out.cells5
    go_wp2_with fail
    exact bodyPost_ret (v := .tuple #[rV 0 0 0 ⟨#[]⟩ ⟨#[]⟩, .string ⟨#[]⟩, .iface 57 (.agg #[.int .i64 1])]) (by simp [results, Tryz.results30, go_sem, c0, c1, c2, c3, c4]) rfl ⟨.inl ⟨1, rfl, HH.out⟩, Hbe.out⟩
  · have hlen : l.length + 1 ≤ s.size := by have := congrArg List.length hdr; simp at this; omega
    have hrest : s.data.toList.drop (l.length + 1) = rest := by rw [hdr]; simp
    have hes : (tb l).size ≤ 1048576 := by rw [tb_size]; have := HS.out; omega
    have HDR := hide hdr
    have HNL := hide hnl
    have HR := hide hrest
    have HES := hide hes
    have HLEN := hide hlen
    clear hdr hnl hrest hes hlen
    go_wp2_with fail
    refine (i_RF _ _ HES.out (HV.out.on Hb1.out)).mono ?_
    rintro e w2 ⟨rfl, hb2⟩
    rw [tb_data]
    have HB2 := hide (HB1.out.below hb2 (by omega))
    have Hb2 := hide (Hb1.out.trans (hb2.mono (by omega)))
    have hz2 : w.heap.size + 1 ≤ w2.heap.size := Nat.le_trans hz1 hb2.size
    clear hb2
    rcases ho : fromL l with _ | ⟨p2, r1, r2, r3, r4, r5⟩
    · have HH : Hid (∀ (O : List Rec) (k : Nat), p = (O.length : Int) + 1 → jg O k s.data.toList = (O, k, jBad)) := fun O k _ => by
        have h := jg_line (out := O) (n := k) (rest := rest) HNL.out
        rw [← HDR.out] at h
        rw [ho] at h
        exact h
      have hv : fromV none = .tuple #[.int .i64 0, rV 0 0 0 ⟨#[]⟩ ⟨#[]⟩, .bool false] := rfl
      rw [hv]
      have HB3 := hide (HB2.out.alloc (rC 0 0 0 ⟨#[]⟩ ⟨#[]⟩))
      have Hb3 := hide (Hb2.out.alloc (by omega) (rC 0 0 0 ⟨#[]⟩ ⟨#[]⟩))
      clear ho hv
      have Hbe := hide (below_put5 Hb3.out (Nat.le_refl _) (.int .i64 0) (.int .i64 0) (.int .i64 0) (.string ⟨#[]⟩) (.string ⟨#[]⟩))
      obtain ⟨⟨c0, c1, c2, c3, c4⟩, f0, f1, f2, f3, f4⟩ := HB3.out.cells5
      go_wp2_with fail
      exact bodyPost_ret (v := .tuple #[rV 0 0 0 ⟨#[]⟩ ⟨#[]⟩, .string ⟨#[]⟩, .iface 57 (.agg #[.int .i64 2])]) (by simp [results, Tryz.results30, go_sem, c0, c1, c2, c3, c4]) rfl ⟨.inl ⟨2, rfl, HH.out⟩, Hbe.out⟩
    · have hv : fromV (some (p2, r1, r2, r3, r4, r5)) = .tuple #[.int .i64 p2, rV r1 r2 r3 r4 r5, .bool true] := rfl
      rw [hv]
      have HB3 := hide (HB2.out.alloc (rC r1 r2 r3 r4 r5))
      have Hb3 := hide (Hb2.out.alloc (by omega) (rC r1 r2 r3 r4 r5))
      by_cases hp : p2 = p
      · have HH : Hid (∀ (O : List Rec) (k : Nat), p = (O.length : Int) + 1 → jg O k s.data.toList = jg (O ++ [(r1, r2, r3, r4, r5)]) (k + (l.length + 1)) (s.data.toList.drop (l.length + 1))) := fun O k hO => by
          have h := jg_line (out := O) (n := k) (rest := rest) HNL.out
          rw [← HDR.out] at h
          rw [ho] at h
          refine h.trans ?_
          show (if _ then _ else _) = _
          rw [if_pos (by rw [hp]; exact hO), HR.out]
        subst hp
        have HX3 := Blk.new w2 28 #[.int .i64 r1, .int .i64 r2, .int .i64 r3, .string r4, .string r5]
        obtain ⟨⟨l0, l1, l2, l3, l4⟩, _⟩ := HX3.cells5
        obtain ⟨⟨c0, c1, c2, c3, c4⟩, f0, f1, f2, f3, f4⟩ := HB3.out.cells5
        have Hbe := hide (below_put5 Hb3.out (Nat.le_refl _) (.int .i64 r1) (.int .i64 r2) (.int .i64 r3) (.string r4) (.string r5))
        clear ho hv HX3
        go_wp2_with fail
        exact bodyPost_ret (v := .tuple #[rV r1 r2 r3 r4 r5, .string (tb rest), .nilIface]) (by simp [results, Tryz.results30, go_sem, c0, c1, c2, c3, c4]) rfl ⟨.inr ⟨(r1, r2, r3, r4, r5), l.length + 1, by rw [HR.out], by omega, by have := HLEN.out; simp; omega, HH.out⟩, Hbe.out⟩
      · have HH : Hid (∀ (O : List Rec) (k : Nat), p = (O.length : Int) + 1 → jg O k s.data.toList = (O, k, jBad)) := fun O k hO => by
          have h := jg_line (out := O) (n := k) (rest := rest) HNL.out
          rw [← HDR.out] at h
          rw [ho] at h
          refine h.trans ?_
          show (if _ then _ else _) = _
          rw [if_neg (by rw [← hO]; exact hp)]
        clear ho hv
        have Hbe := hide (below_put5 Hb3.out (Nat.le_refl _) (.int .i64 0) (.int .i64 0) (.int .i64 0) (.string ⟨#[]⟩) (.string ⟨#[]⟩))
        obtain ⟨⟨c0, c1, c2, c3, c4⟩, f0, f1, f2, f3, f4⟩ := HB3.out.cells5
        go_wp2_with fail
        exact bodyPost_ret (v := .tuple #[rV 0 0 0 ⟨#[]⟩ ⟨#[]⟩, .string ⟨#[]⟩, .iface 57 (.agg #[.int .i64 2])]) (by simp [results, Tryz.results30, go_sem, c0, c1, c2, c3, c4]) rfl ⟨.inl ⟨2, rfl, HH.out⟩, Hbe.out⟩
end Go.Proofs.YtmofnmklodmkmaaGreatDoor

/- JournalFrom: the program's, with errors.As. -/
set_option linter.unusedVariables false
set_option linter.unusedSimpArgs false
namespace Go.Proofs.YtmofnmklodmkmaaGreatDoor
open Go.RowKit
/-- errors.As at a target that was just made. -/
theorem as_new (k : Int) (w : World) (hg : w.cell? ⟨0, 0, none⟩ = some (.iface 109 (.agg #[.pointer (some ⟨9, 46, none⟩)]))) :
    Calls Tryz.prog 31 #[.iface 57 (.agg #[.int .i64 k]), .iface 59 (.pointer (some ⟨w.heap.size, 0, none⟩))] (w.alloc (.cells #[.int .i64 0] 57)) fun ev w' => ev = .returned (.bool true) ∧ Below w.heap.size w w' ∧ w'.cell? ⟨w.heap.size, 0, none⟩ = some (.int .i64 k) := by
  have h0 := (Below.refl w.heap.size w).alloc (Nat.le_refl _) (.cells #[.int .i64 0] 57)
  refine (as_hit (.int .i64 k) rfl ⟨w.heap.size, 0, none⟩ (.int .i64 0) _ (cell_on hg h0) (by simp) (by simp)).mono ?_
  rintro ev w' ⟨rfl, rfl⟩
  refine ⟨rfl, ?_, ?_⟩
  · refine Below.setCell (B := w.heap.size) (p := ⟨w.heap.size, 0, none⟩) ?_ (Nat.le_refl _) _
    exact ((((h0.alloc (by simp) _).alloc (by simp; omega) _).alloc (by simp; omega) _).alloc (by simp; omega) _)
  · refine World.cell?_setCell_same _ _ _ (h := (?_ : _ = some (.int .i64 0)))
    rw [World.cell?_alloc_lt _ _ ⟨w.heap.size, 0, none⟩ (by simp; omega), World.cell?_alloc_lt _ _ ⟨w.heap.size, 0, none⟩ (by simp; omega), World.cell?_alloc_lt _ _ ⟨w.heap.size, 0, none⟩ (by simp; omega), World.cell?_alloc_lt _ _ ⟨w.heap.size, 0, none⟩ (by simp)]
    simp

def strSz : Value → Nat | .string s => s.size | _ => 0

set_option maxHeartbeats 4000000 in
set_option maxRecDepth 100000 in
theorem i_JF (s : ByteArray) (w : World) (hs : s.size ≤ 1048576) (hV : Jw w) :
    Calls Tryz.prog 14 #[.string s] w fun e w' => OwnJF s.data.toList w e w' := by
  obtain ⟨i1, hi1, hy0, hy1, hy2⟩ := info_parts5 rec_info
  have hU := Tryz.underlying23
  have own0 : w.ownsRow w.heap.size 28 5 (.slice none 0 0) 0 (rcells []) := World.ownsRow_nil _ _ _ _
  have Own0 := hide own0
  have HSZ := hide hs
  have HV := hide hV
  clear own0 hV
  go_enter Tryz.func14, Tryz.ntmps14
  go_wp2_with fail
  go_loopw [5, 6] (fun u v wr => ∃ (k m : Nat) (O : List Rec) (A4 : Option Addr) (c4 : Nat) (R : ByteArray), m ≤ k ∧ v = .string R ∧ u = .slice A4 m c4 ∧ Hid (k + R.size = s.size) ∧ Hid (O.length = m) ∧ Hid (R.data.toList = s.data.toList.drop k) ∧ Hid (jf s.data.toList = jg O k (s.data.toList.drop k)) ∧ Hid (wr.ownsRow w.heap.size 28 5 (.slice A4 m c4) m (rcells O)) ∧ Hid (Below w.heap.size w wr)) (fun _ v _ => strSz v)
  case atStart => exact ⟨0, 0, [], _, _, s, Nat.le_refl _, rfl, rfl, Nat.zero_add _, rfl, rfl, rfl, Own0.out, Below.refl _ _⟩
  case round =>
    obtain ⟨k, m, O, A4, c4, R, hm, rfl, rfl, hkr, hol, hrd0, hjf, hown, hbr⟩ := hrel
    rename_i wr
    by_cases he : R.data.toList = []
    · have q : (R.toList == []) = true := (eq_k R []).trans (by simpa using he)
      have hz : R.size = 0 := by have h : R.data.toList.length = 0 := by rw [he]; rfl
                                 simpa using h
      have H : Hid (jf s.data.toList = (O, s.size, jFine)) := by
        show _ = _
        have h := hjf.out
        rw [← hrd0.out, he, jg_nil] at h
        rw [h, show k = s.size by have := hkr.out; omega]
      clear he hz
      go_wp2_with fail
      go_ret3
      exact ⟨_, O, s.size, jFine, rfl, H.out, ⟨_, _, _, rfl, hown.out⟩, hbr.out⟩
    · have q : (R.toList == []) = false := (eq_k R []).trans (by simpa using he)
      have HNE := hide he
      have hsb : k + R.size ≤ 1048576 := by have := hkr.out; have := HSZ.out; omega
      have hw : IntKind.i64.wrap ((m : Int) + 1) = (m : Int) + 1 := IntWalk.i64_in _ (by omega)
      have hw2 : IntKind.i64.wrap ((s.size : Int) - (R.size : Int)) = (k : Int) := by have := hkr.out; rw [IntWalk.i64_in _ (by omega)]; omega
      clear he
      go_wp2_with fail
      refine (i_NR R _ _ (by omega) HNE.out (HV.out.on hbr.out).vw).mono ?_
      rintro e w2 ⟨⟨why, rfl, hjg⟩ | ⟨⟨r1, r2, r3, r4, r5⟩, n, rfl, hn1, hn2, hjg⟩, hb2⟩
      · have H : Hid (jf s.data.toList = (O, k, why)) := hjf.out.trans (by rw [← hrd0.out]; exact hjg O k (by rw [hol.out]))
        have Hb2 := hide (hbr.out.trans (hb2.mono hbr.out.size))
        have Hown2 := hide (hown.out.kept (grown_of_below hb2 (row := none)) (by cases (Value.slice A4 m c4).ownBlock <;> simp))
        have Hb3 := hide (Hb2.out.alloc Hb2.out.size (rC 0 0 0 ⟨#[]⟩ ⟨#[]⟩))
        have Hown3 := hide (Hown2.out.alloc (rC 0 0 0 ⟨#[]⟩ ⟨#[]⟩))
        have hsz3 : (w2.alloc (rC 0 0 0 ⟨#[]⟩ ⟨#[]⟩)).heap.size = w2.heap.size + 1 := World.size_alloc _ _
        clear hb2 hjg
        go_wp2_with fail
        have has := as_new why (w2.alloc (rC 0 0 0 ⟨#[]⟩ ⟨#[]⟩)) (HV.out.on Hb3.out).et
        rw [hsz3] at has
        refine has.mono ?_
        rintro e w4 ⟨rfl, hb4, hc4⟩
        have Hb4 := hide (Hb3.out.trans (hb4.mono (by have := Hb2.out.size; omega)))
        have Hown4 := hide (Hown3.out.kept (grown_of_below (by rw [hsz3]; exact hb4) (row := none)) (by cases (Value.slice A4 m c4).ownBlock <;> simp))
        clear has hb4
        go_wp2_with fail
        go_region
        all_goals
          go_wp2_with fail
          go_ret3
          exact ⟨_, O, k, why, rfl, H.out, ⟨_, _, _, rfl, Hown4.out.drew⟩, Hb4.out.drew⟩
      · have hnl : n ≤ R.size := by simpa using hn2
        have hdr : s.data.toList.drop (k + n) = R.data.toList.drop n := by rw [hrd0.out, List.drop_drop]
        have H : Hid (jf s.data.toList = jg (O ++ [(r1, r2, r3, r4, r5)]) (k + n) (s.data.toList.drop (k + n))) := by
          show _ = _
          rw [hdr]
          exact hjf.out.trans (by rw [← hrd0.out]; exact hjg O k (by rw [hol.out]))
        have HD : Hid ((tb (R.data.toList.drop n)).data.toList = s.data.toList.drop (k + n)) := by show _ = _; rw [hdr, tb_data]
        have HK : Hid (k + n + (tb (R.data.toList.drop n)).size = s.size) := by
          show _ = _
          rw [tb_size, List.length_drop]
          have h1 := hkr.out
          have h2 : R.data.toList.length = R.size := by simp
          omega
        have HSM : Hid ((tb (R.data.toList.drop n)).size < R.size) := by
          show _ < _
          rw [tb_size, List.length_drop]
          have h2 : R.data.toList.length = R.size := by simp
          omega
        have Hb2 := hide (hbr.out.trans (hb2.mono hbr.out.size))
        have Hown2 := hide (hown.out.kept (grown_of_below hb2 (row := none)) (by cases (Value.slice A4 m c4).ownBlock <;> simp))
        have hz2 : w.heap.size ≤ w2.heap.size := Hb2.out.size
        have Hb3 := hide (Hb2.out.alloc hz2 (rC r1 r2 r3 r4 r5))
        have Hown3 := hide (Hown2.out.alloc (rC r1 r2 r3 r4 r5))
        have Hb4 := hide (Hb3.out.alloc Hb3.out.size (.cells #[.int .i64 0] 57))
        have Hown4 := hide (Hown3.out.alloc (.cells #[.int .i64 0] 57))
        have HX4 := hide ((Blk.new w2 28 #[.int .i64 r1, .int .i64 r2, .int .i64 r3, .string r4, .string r5]).alloc (.cells #[.int .i64 0] 57))
        clear hb2 hjg
        go_wp2_with fail
        refine (as_nil _ _).mono ?_
        rintro e w4 ⟨rfl, hw4⟩
        rw [← hw4] at Hb4 Hown4 HX4
        have HW4 := hide hw4
        clear hw4
        obtain ⟨⟨l0, l1, l2, l3, l4⟩, _⟩ := HX4.out.cells5
        have hrd := rd_five w4 28 (r1, r2, r3, r4, r5)
        have HR := hide hrd
        clear hrd
        have m1 : m + 1 ≤ maxLen := by unfold maxLen; omega
        have m2 : (m + 1) * 56 ≤ 140737488355328 := by omega
        have Hap := hide (Hown4.out.alloc (rC r1 r2 r3 r4 r5))
        have Hb5 := hide (Hb4.out.alloc Hb4.out.size (rC r1 r2 r3 r4 r5))
        go_wp2_with (
          (at_builtin
           refine wpList_append_rd _ rfl (.tmp 34) (.tmp 36) _ rfl w.heap.size 28 i1 _ 5 56 hU hi1 hy0 hy1 hy2 rfl (by omega) (.slice A4 m c4) m (rcells O) rfl Hap.out (w4.heap.size + 1) (some ⟨w4.heap.size, 0, none⟩) 1 _ (rcells [(r1, r2, r3, r4, r5)]) rfl HR.out (rcells_one _) m1 m2 Hb5.out.size ?_
           intro v5 w5 own5 gr5 at5
           have Hb6 := hide (Below.own Hb5.out gr5 Hap.out (Nat.le_refl _) Hb5.out.size)
           have Hown5 := hide own5
           clear gr5 at5 own5))
        obtain ⟨A5, c5, e5⟩ := row_slice Hown5.out
        subst e5
        go_round
        case rel => exact ⟨k + n, m + 1, O ++ [(r1, r2, r3, r4, r5)], A5, c5, _, by omega, rfl, rfl, HK.out, by show _ = _; rw [List.length_append, hol.out]; rfl, HD.out, H.out, by have h := Hown5.out; rw [← rcells_app] at h; exact h, Hb6.out⟩
        case measure => exact HSM.out
end Go.Proofs.YtmofnmklodmkmaaGreatDoor
