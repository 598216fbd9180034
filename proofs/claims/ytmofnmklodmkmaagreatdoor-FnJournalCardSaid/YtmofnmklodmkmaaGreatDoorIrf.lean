/- RecordFrom of the program: its words. -/
import Derived.Test.YtmofnmklodmkmaaGreatDoorIrt
set_option linter.unusedVariables false
set_option linter.unusedSimpArgs false
namespace Go.Proofs.YtmofnmklodmkmaaGreatDoor
open Go.RowKit Go.BigFrame

set_option maxHeartbeats 1000000 in
set_option maxRecDepth 100000 in
theorem w_num (s : ByteArray) (w : World) (hs : s.size ≤ 1048576) (hV : Vw w) :
    Calls Tryz.prog 67 #[.string s] w fun e w' => e = .returned (.int .i64 (wnum s.data.toList)) ∧ Below w.heap.size w w' := by
  have HS := hide hs
  have HV := hide hV
  clear hs hV
  go_enter Tryz.func67, Tryz.ntmps67
  go_wp2_with fail
  refine (atoi_call s HS.out _ HV.out).mono ?_
  rintro e w1 ⟨x, er, rfl, hx, hb⟩
  have Hb := hide hb
  clear hb
  rcases hx with ⟨rfl, rfl⟩ | ⟨⟨T, p, rfl⟩, h0⟩
  · go_wp2_with fail
    go_ret
    exact ⟨rfl, Hb.out⟩
  · have H0 := hide h0
    clear h0
    go_wp2_with fail
    go_ret
    exact ⟨by rw [H0.out]; rfl, Hb.out⟩

/-- What the three words of a line tell. -/
def kfV (a b c : Txt) : Value := if a = wPost ∨ a = wMoved ∨ a = wFollow ∨ a = wUnf then .tuple #[kV (ofN a b c (wnum b) (wnum c)), .bool true] else .tuple #[.nilIface, .bool false]
theorem kfV_t {a b c : Txt} (h : kw a) : kfV a b c = .tuple #[kV (ofN a b c (wnum b) (wnum c)), .bool true] := if_pos h
theorem kfV_f {a b c : Txt} (h : ¬ kw a) : kfV a b c = .tuple #[.nilIface, .bool false] := if_neg h
theorem wm_ne : ¬ wMoved = wPost := by decide
theorem wf_ne : ¬ wFollow = wPost ∧ ¬ wFollow = wMoved := by decide
theorem wu_ne : ¬ wUnf = wPost ∧ ¬ wUnf = wMoved ∧ ¬ wUnf = wFollow := by decide
theorem kf_1 {a b c : Txt} (h : a = wPost) : kfV a b c = .tuple #[kP (wnum b) (tb c), .bool true] := by subst h; rfl
theorem kf_2 {a b c : Txt} (h : a = wMoved) : kfV a b c = .tuple #[kM (wnum b) (wnum c), .bool true] := by subst h; rfl
theorem kf_3 {a b c : Txt} (h : a = wFollow) : kfV a b c = .tuple #[kF (tb b) (tb c), .bool true] := by subst h; rfl
theorem kf_4 {a b c : Txt} (h : a = wUnf) : kfV a b c = .tuple #[kU (tb b) (tb c), .bool true] := by subst h; rfl

set_option maxHeartbeats 2000000 in
set_option maxRecDepth 100000 in
theorem k_from (a b c : ByteArray) (w : World) (hb : b.size ≤ 1048576) (hc : c.size ≤ 1048576) (hV : Vw w) :
    Calls Tryz.prog 66 #[.string a, .string b, .string c] w fun e w' => e = .returned (kfV a.data.toList b.data.toList c.data.toList) ∧ Below w.heap.size w w' := by
  have HB := hide hb
  have HC := hide hc
  have HV := hide hV
  clear hb hc hV
  by_cases h1 : a.data.toList = wPost
  · have H : Hid (kfV a.data.toList b.data.toList c.data.toList = .tuple #[kP (wnum b.data.toList) c, .bool true]) := by show _ = _; rw [kf_1 h1, tb_list]
    have q1 : (a.toList == [112, 111, 115, 116]) = true := (eq_k a wPost).trans (by simpa using h1)
    clear h1
    go_enter Tryz.func66, Tryz.ntmps66
    go_wp2_with fail
    refine (w_num b _ HB.out HV.out).mono ?_
    rintro e w1 ⟨rfl, hb1⟩
    have Hb1 := hide hb1
    clear hb1
    go_wp2_with fail
    go_ret2
    exact ⟨by rw [H.out]; rfl, Hb1.out⟩
  have q1 : (a.toList == [112, 111, 115, 116]) = false := (eq_k a wPost).trans (by simpa using h1)
  by_cases h2 : a.data.toList = wMoved
  · have H : Hid (kfV a.data.toList b.data.toList c.data.toList = .tuple #[kM (wnum b.data.toList) (wnum c.data.toList), .bool true]) := by show _ = _; rw [kf_2 h2]
    have q2 : (a.toList == [109, 111, 118, 101, 100]) = true := (eq_k a wMoved).trans (by simpa using h2)
    clear h1 h2
    go_enter Tryz.func66, Tryz.ntmps66
    go_wp2_with fail
    refine (w_num b _ HB.out HV.out).mono ?_
    rintro e w1 ⟨rfl, hb1⟩
    have Hb1 := hide hb1
    clear hb1
    go_wp2_with fail
    refine (w_num c _ HC.out (HV.out.on Hb1.out)).mono ?_
    rintro e w2 ⟨rfl, hb2⟩
    have Hb2 := hide (Hb1.out.trans (hb2.mono Hb1.out.size))
    clear hb2
    go_wp2_with fail
    go_ret2
    exact ⟨by rw [H.out]; rfl, Hb2.out⟩
  have q2 : (a.toList == [109, 111, 118, 101, 100]) = false := (eq_k a wMoved).trans (by simpa using h2)
  by_cases h3 : a.data.toList = wFollow
  · have H : Hid (kfV a.data.toList b.data.toList c.data.toList = .tuple #[kF b c, .bool true]) := by show _ = _; rw [kf_3 h3, tb_list, tb_list]
    have q3 : (a.toList == [102, 111, 108, 108, 111, 119]) = true := (eq_k a wFollow).trans (by simpa using h3)
    clear h1 h2 h3
    go_enter Tryz.func66, Tryz.ntmps66
    go_wp2_with fail
    go_ret2
    exact ⟨by rw [H.out]; rfl, Below.refl _ _⟩
  have q3 : (a.toList == [102, 111, 108, 108, 111, 119]) = false := (eq_k a wFollow).trans (by simpa using h3)
  by_cases h4 : a.data.toList = wUnf
  · have H : Hid (kfV a.data.toList b.data.toList c.data.toList = .tuple #[kU b c, .bool true]) := by show _ = _; rw [kf_4 h4, tb_list, tb_list]
    have q4 : (a.toList == [117, 110, 102, 111, 108, 108, 111, 119]) = true := (eq_k a wUnf).trans (by simpa using h4)
    clear h1 h2 h3 h4
    go_enter Tryz.func66, Tryz.ntmps66
    go_wp2_with fail
    go_ret2
    exact ⟨by rw [H.out]; rfl, Below.refl _ _⟩
  · have H : Hid (kfV a.data.toList b.data.toList c.data.toList = .tuple #[.nilIface, .bool false]) := by
      show _ = _
      refine kfV_f ?_
      rintro (h | h | h | h)
      · exact h1 h
      · exact h2 h
      · exact h3 h
      · exact h4 h
    have q4 : (a.toList == [117, 110, 102, 111, 108, 108, 111, 119]) = false := (eq_k a wUnf).trans (by simpa using h4)
    clear h1 h2 h3 h4
    go_enter Tryz.func66, Tryz.ntmps66
    go_wp2_with fail
    go_ret2
    exact ⟨by rw [H.out]; rfl, Below.refl _ _⟩

/-- The record of what was read. -/
theorem k_of (a b c : Txt) (x y : Int) (w : World) (h : kw a) :
    Calls Tryz.prog 50 #[kV (ofN a b c x y)] w fun e w' => e = .returned (reV (ofN a b c x y)) ∧ Below w.heap.size w w' := by
  rcases h with rfl | rfl | rfl | rfl
  · exact k_of1 x (tb c) w
  · exact k_of2 x y w
  · exact k_of3 (tb b) (tb c) w
  · exact k_of4 (tb b) (tb c) w
end Go.Proofs.YtmofnmklodmkmaaGreatDoor
