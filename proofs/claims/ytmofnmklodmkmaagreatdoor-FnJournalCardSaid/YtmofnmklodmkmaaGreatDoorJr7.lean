/- JournalFrom: the spec's. -/
import Derived.Test.YtmofnmklodmkmaaGreatDoorJt
import Derived.Test.YtmofnmklodmkmaaGreatDoorJe
set_option linter.unusedVariables false
set_option linter.unusedSimpArgs false
namespace Go.Proofs.YtmofnmklodmkmaaGreatDoor
open Go.RowKit

theorem rec_info : (Tryz.prog.info? 28).map (fun i => (i.zero, i.size, i.bytes)) = some (some (.agg #[.int .i64 0, .int .i64 0, .int .i64 0, .string ByteArray.empty, .string ByteArray.empty]), 5, 56) := by kernel_rfl
theorem info_parts5 {P : Program} {e : TypeId} {z : Value} {size bytes : Nat} (h : (P.info? e).map (fun i => (i.zero, i.size, i.bytes)) = some (some z, size, bytes)) : ∃ i, P.info? e = some i ∧ i.zero = some z ∧ i.size = size ∧ i.bytes = bytes := by
  rw [Option.map_eq_some_iff] at h
  obtain ⟨i, h1, h2⟩ := h
  simp at h2
  exact ⟨i, h1, h2.1, h2.2.1, h2.2.2⟩
theorem rd_five (w : World) (e : TypeId) (r : Rec) : Rd (w.alloc (.cells #[.int .i64 r.1, .int .i64 r.2.1, .int .i64 r.2.2.1, .string r.2.2.2.1, .string r.2.2.2.2] e)) (w.heap.size + 1) 5 (some ⟨w.heap.size, 0, none⟩) 1 (rcells [r]) :=
  ⟨by rw [rcells_len]; rfl, fun _ => ⟨_, 0, rfl, by omega, fun j u hu => by
    rw [Nat.zero_add]
    refine ((Blk.new w e #[.int .i64 r.1, .int .i64 r.2.1, .int .i64 r.2.2.1, .string r.2.2.2.1, .string r.2.2.2.2]).cell j).trans ?_
    rw [← hu, rcells_cons, rcells_nil, List.append_nil]
    rw [← Array.getElem?_toList]
    rfl⟩⟩
/-- What a journal gives. -/
def OwnJF (s : Txt) (w : World) (e : Ending) (w' : World) : Prop := ∃ v X n why, e = .returned (.tuple #[v, .int .i64 ((n : Nat) : Int), .int .i64 why]) ∧ jf s = (X, n, why) ∧ OwnR w.heap.size w' v X ∧ Below w.heap.size w w'

set_option maxHeartbeats 4000000 in
set_option maxRecDepth 100000 in
theorem s_JF (s : ByteArray) (w : World) (hs : s.size ≤ 1048576) :
    Calls Tryz.prog 17 #[.string s] w fun e w' => OwnJF s.data.toList w e w' := by
  obtain ⟨i1, hi1, hy0, hy1, hy2⟩ := info_parts5 rec_info
  have hU := Tryz.underlying23
  have h0 := (Below.refl w.heap.size w).alloc (Nat.le_refl _) (.cells #[] 28)
  have H0 := hide h0
  have own0 : (w.alloc (.cells #[] 28)).ownsRow w.heap.size 28 5 (.slice (some ⟨w.heap.size, 0, none⟩) 0 0) 0 (rcells []) := World.ownsRow_lit w #[] 0 (Nat.le_refl _) (Nat.zero_le _) rfl
  have Own0 := hide own0
  have HSZ := hide hs
  have hsm : s.size ≤ maxLen := by unfold maxLen; omega
  have HSM := hide hsm
  clear h0 own0 hsm
  go_enter Tryz.func17, Tryz.ntmps17
  go_wp2_with fail
  go_loopw [5, 6] (fun u v wr => ∃ (k m : Nat) (O : List Rec) (A4 : Option Addr) (c4 : Nat), k ≤ s.size ∧ m ≤ k ∧ v = .int .i64 k ∧ u = .slice A4 m c4 ∧ Hid (O.length = m) ∧ Hid (jf s.data.toList = jg O k (s.data.toList.drop k)) ∧ Hid (wr.ownsRow w.heap.size 28 5 (.slice A4 m c4) m (rcells O)) ∧ Hid (Below w.heap.size w wr)) (fun _ v _ => s.size - (intOf v).toNat)
  case atStart => exact ⟨0, 0, [], _, _, Nat.zero_le _, Nat.le_refl _, rfl, rfl, rfl, rfl, Own0.out, H0.out⟩
  case round =>
    obtain ⟨k, m, O, A4, c4, hk, hm, rfl, rfl, hol, hjf, hown, hbr⟩ := hrel
    rename_i wr
    by_cases hlt : k < s.size
    · go_wp2_with fail
      refine (s_end s k _ HSM.out hk).mono ?_
      rintro e w' ⟨⟨rfl, hno⟩ | ⟨l, rest, rfl, hdr, hnl⟩, rfl⟩
      · have H : Hid (jf s.data.toList = (O, k, jTorn)) := by
          show _ = _
          rw [hjf.out]
          exact jg_torn (fun h => by have := congrArg List.length h; simp at this; omega) hno
        clear hno
        go_wp2_with fail
        go_ret3
        exact ⟨_, O, k, jTorn, rfl, H.out, ⟨_, _, _, rfl, hown.out⟩, hbr.out⟩
      · have hlen : k + l.length + 1 ≤ s.size := by have := congrArg List.length hdr; simp at this; omega
        obtain ⟨en, hen⟩ : ∃ en, k + l.length = en := ⟨_, rfl⟩
        rw [hen] at hlen ⊢
        have hext : (s.extract k en).data.toList = l := by
          rw [ext_tb, tb_data, ← hen, List.drop_take, hdr]
          simp
        have hjl := jg_line (out := O) (n := k) (rest := rest) hnl
        rw [← hdr, ← hjf.out] at hjl
        have HJL := hide hjl
        have Hdr := hide hdr
        have Hen := hide hen
        have b1 : (k : Int) ≤ (en : Int) := by omega
        have b2 : (en : Int) ≤ (s.size : Int) := by omega
        have b3 : ¬ ((en : Int) < 0) := by omega
        have hes : (s.extract k en).size ≤ 1048576 := by simp [ByteArray.size_extract]; omega
        have HES := hide hes
        clear hjl hdr hnl hen hes
        go_wp2_with fail
        refine (s_RF _ _ HES.out).mono ?_
        rintro e w2 ⟨rfl, hb2⟩
        rw [hext]
        have Hb2 := hide (hbr.out.trans (hb2.mono hbr.out.size))
        have Hown2 := hide (hown.out.kept (grown_of_below hb2 (row := none)) (by cases (Value.slice A4 m c4).ownBlock <;> simp))
        have hz2 : w.heap.size ≤ w2.heap.size := Nat.le_trans hbr.out.size hb2.size
        clear hb2 hext
        rcases ho : fromL l with _ | ⟨p, r1, r2, r3, r4, r5⟩
        · have H : Hid (jf s.data.toList = (O, k, jBad)) := by
            have h := HJL.out
            rw [ho] at h
            exact h
          have hv : fromV none = .tuple #[.int .i64 0, rV 0 0 0 ⟨#[]⟩ ⟨#[]⟩, .bool false] := rfl
          rw [hv]
          have Hb3 := hide (Hb2.out.alloc hz2 (rC 0 0 0 ⟨#[]⟩ ⟨#[]⟩))
          have Hown3 := hide (Hown2.out.alloc (rC 0 0 0 ⟨#[]⟩ ⟨#[]⟩))
          clear ho hv
          go_wp2_with fail
          go_ret3
          exact ⟨_, O, k, jBad, rfl, H.out, ⟨_, _, _, rfl, Hown3.out⟩, Hb3.out⟩
        · have hv : fromV (some (p, r1, r2, r3, r4, r5)) = .tuple #[.int .i64 p, rV r1 r2 r3 r4 r5, .bool true] := rfl
          rw [hv]
          have Hb3 := hide (Hb2.out.alloc hz2 (rC r1 r2 r3 r4 r5))
          have Hown3 := hide (Hown2.out.alloc (rC r1 r2 r3 r4 r5))
          have HX3 := Blk.new w2 28 #[.int .i64 r1, .int .i64 r2, .int .i64 r3, .string r4, .string r5]
          obtain ⟨⟨l0, l1, l2, l3, l4⟩, _⟩ := HX3.cells5
          have hw : IntKind.i64.wrap ((m : Int) + 1) = (m : Int) + 1 := IntWalk.i64_in _ (by omega)
          by_cases hp : p = (m : Int) + 1
          · have H : Hid (jf s.data.toList = jg (O ++ [(r1, r2, r3, r4, r5)]) (en + 1) (s.data.toList.drop (en + 1))) := by
              have h := HJL.out
              rw [ho] at h
              show _ = _
              refine h.trans ?_
              show (if _ then _ else _) = _
              rw [if_pos (by rw [hol.out]; exact hp), show k + (l.length + 1) = en + 1 by have := Hen.out; omega]
              congr 1
              have h2 := congrArg (List.drop (l.length + 1)) Hdr.out
              rw [List.drop_drop] at h2
              rw [show en + 1 = k + (l.length + 1) by have := Hen.out; omega, h2]
              simp
            subst hp
            have hbz := Hb3.out.size
            have hw2 : IntKind.i64.wrap ((en : Int) + 1) = (en : Int) + 1 := IntWalk.i64_in _ (by omega)
            have hrd := rd_five (w2.alloc (rC r1 r2 r3 r4 r5)) 28 (r1, r2, r3, r4, r5)
            rw [World.size_alloc] at hrd
            have HR := hide hrd
            clear hrd
            have m1 : m + 1 ≤ maxLen := by unfold maxLen; omega
            have m2 : (m + 1) * 56 ≤ 140737488355328 := by omega
            have Hap := hide (Hown3.out.alloc (rC r1 r2 r3 r4 r5))
            have Hb4 := hide (Hb3.out.alloc hbz (rC r1 r2 r3 r4 r5))
            clear ho hv HX3
            go_wp2_with (
              (at_builtin
               refine wpList_append_rd _ rfl (.tmp 43) (.tmp 45) _ rfl w.heap.size 28 i1 _ 5 56 hU hi1 hy0 hy1 hy2 rfl (by omega) (.slice A4 m c4) m (rcells O) rfl Hap.out (w2.heap.size + 1 + 1) (some ⟨w2.heap.size + 1, 0, none⟩) 1 _ (rcells [(r1, r2, r3, r4, r5)]) rfl HR.out (rcells_one _) m1 m2 (by simp; omega) ?_
               intro v5 w5 own5 gr5 at5
               have Hb5 := hide (Below.own Hb4.out gr5 Hap.out (Nat.le_refl _) Hb4.out.size)
               have Hown5 := hide own5
               clear gr5 at5 own5))
            obtain ⟨A5, c5, e5⟩ := row_slice Hown5.out
            subst e5
            go_round
            case rel => exact ⟨en + 1, m + 1, O ++ [(r1, r2, r3, r4, r5)], A5, c5, by omega, by have := Hen.out; omega, by go_num, rfl, by show _ = _; rw [List.length_append, hol.out]; rfl, H, by have h := Hown5.out; rw [← rcells_app] at h; exact h, Hb5.out⟩
            case measure => simp [intOf]; have := Hen.out; omega
          · have H : Hid (jf s.data.toList = (O, k, jBad)) := by
              have h := HJL.out
              rw [ho] at h
              show _ = _
              refine h.trans ?_
              show (if _ then _ else _) = _
              rw [if_neg (by rw [hol.out]; exact hp)]
            clear ho hv HX3
            go_wp2_with fail
            go_ret3
            exact ⟨_, O, k, jBad, rfl, H.out, ⟨_, _, _, rfl, Hown3.out⟩, Hb3.out⟩
    · have H : Hid (jf s.data.toList = (O, k, jFine)) := by
        show _ = _
        rw [hjf.out, List.drop_of_length_le (by simp; omega), jg_nil]
      go_wp2_with fail
      go_ret3
      exact ⟨_, O, k, jFine, rfl, H.out, ⟨_, _, _, rfl, hown.out⟩, hbr.out⟩
end Go.Proofs.YtmofnmklodmkmaaGreatDoor
