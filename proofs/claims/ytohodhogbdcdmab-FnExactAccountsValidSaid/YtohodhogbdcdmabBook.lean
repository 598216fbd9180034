/- newAccountBook, slices.Clone, FollowersOf of both. -/
import Derived.Test.YtohodhogbdcdmabDict
import Derived.Test.YtohodhogbdcdmabAv3
import Derived.Deep.DeepMust
import Derived.WalkSpells
set_option linter.unusedVariables false
set_option linter.unusedSimpArgs false
namespace Go.Proofs.Ytohodhogbdcdmab
open Go.RowKit

theorem run_makeMapN {P : Program} {t kt et : TypeId} (ht : P.underlying t = some (.map kt et)) (k : Nat) (w : World) : (Instr.makeMap t (some (.int .i64 (k : Int)))).run P w = .ok (.map (some w.heap.size)) (w.alloc (.map #[] 0)) := by
  simp [Instr.makeMap, run_underlying ht, asInt, asIntOf]

theorem nms_take (X : List Acc) (k : Nat) : nms (X.take k) = (nms X).take k := by unfold nms; rw [List.map_take]
theorem nms_new {X : List Acc} (h : asB X = true) {k : Nat} {a : Acc} (ha : X[k]? = some a) : a.1 ∉ nms (X.take k) := by
  rw [nms_take]
  intro hm
  obtain ⟨j, hj, e⟩ := List.mem_iff_getElem.1 hm
  rw [List.length_take] at hj
  rw [List.getElem_take] at e
  have h1 : (nms X)[j]? = some a.1 := by rw [List.getElem?_eq_getElem (by omega), e]
  have := (asB_asc h).uniq h1 (nms_at ha)
  omega
theorem nil_one : (Value.slice none 0 0).oneCell' = true := rfl

/-- The book: accounts are valid, and there is a map of them; or they are not. -/
def BookR (w : World) (X : List Acc) (e : Ending) (w' : World) : Prop :=
  (asB X = false ∧ e = .returned (.tuple #[.map none, .bool false]) ∧ Below w.heap.size w w') ∨
  (asB X = true ∧ ∃ b, e = .returned (.tuple #[.map (some b), .bool true]) ∧ w.heap.size ≤ b ∧ Book w' (· < w.heap.size) b 6 X ∧ Below w.heap.size w w')

set_option maxHeartbeats 1000000 in
theorem i_book (A : Option Addr) (n c : Nat) (X : List Acc) (w : World) (hX : Accs w w.heap.size A n X) (hS : ASmall X) (hn : n ≤ maxLen) :
    Calls Try.prog 48 #[.slice A n c] w fun e w' => BookR w X e w' := by
  have HX := hide hX
  have HS := hide hS
  have Hn := hide hn
  have hl := hide hX.1
  clear hX hS hn
  go_enter Try.func48, Try.ntmps48
  go_wp2_with fail
  refine (i_As A n c X _ HX.out HS.out Hn.out).mono ?_
  rintro e w1 ⟨rfl, hb1⟩
  have Hb1 := hide hb1
  clear hb1
  cases hv : asB X
  · have Hv := hide hv
    clear hv
    go_wp2_with fail
    go_ret2
    exact .inl ⟨Hv.out, rfl, Hb1.out⟩
  have Hv := hide hv
  have hn6 : n ≤ 6 := by have := asB_6 hv; have := hl.out; omega
  clear hv
  have hmm := run_makeMapN Try.underlying58
  have Hst : Hid (Book (w1.alloc (.map #[] 0)) (· < w.heap.size) w1.heap.size 0 []) := Book.made w1 _
  have Hbs : Hid (Below w.heap.size w (w1.alloc (.map #[] 0))) := Hb1.out.alloc Hb1.out.size _
  have hsz1 := Hb1.out.size
  go_wp2_with fail
  go_loopw [6, 15] (fun _ i wr => ∃ k : Nat, k ≤ n ∧ i = .int .i64 k ∧ Hid (Book wr (· < w.heap.size) w1.heap.size k (X.take k)) ∧ Hid (Below w.heap.size w wr)) (fun _ i _ => n - (intOf i).toNat)
  case atStart => exact ⟨0, Nat.zero_le _, rfl, by rw [List.take_zero]; exact Hst, Hbs⟩
  case round =>
    obtain ⟨k, hk, rfl, hbk, hbr⟩ := hrel
    by_cases hlt : k < n
    · obtain ⟨a, ha⟩ : ∃ a, X[k]? = some a := ⟨X[k]'(by have := hl.out; omega), List.getElem?_eq_getElem _⟩
      obtain ⟨g, off, A', n', c', rfl, hg, hc0, hc1, hn', hm', hf⟩ := (HX.out.below hbr.out).at' ha
      have hsm := (HS.out a (List.mem_of_getElem? ha)).1
      have Hsm := hide hsm
      have hsz := hbr.out.size
      have hnew := hide (nms_new Hv.out ha)
      have htk : Hid (X.take (k + 1) = X.take k ++ [(a.1, a.2)]) := by
        obtain ⟨h, e⟩ := List.getElem?_eq_some_iff.1 ha
        show _ = _
        rw [List.take_succ_eq_append_getElem h, e]
      have hbk' : Hid (Book (wr.alloc (.cells #[Value.string a.1, Value.slice A' n' c'] 31)) (· < w.heap.size) w1.heap.size k (X.take k)) :=
        hbk.out.keep (World.grownBy_alloc wr _ none) (by simp) (fun q hq => ((Below.refl w.heap.size wr).alloc hsz _).cell hq)
      obtain ⟨D, d1, d2, d3, d4⟩ := hbk'.out
      have D1 := hide d1
      have D2 := hide d2
      have D3 := hide d3
      have D4 := hide d4
      have Hf := hide hf
      have Hba : Hid (Below w.heap.size w (wr.alloc (.cells #[Value.string a.1, Value.slice A' n' c'] 31))) := hbr.out.alloc hsz _
      have hb1w := hbk.out.lt
      have hkm : k < maxLen := by unfold maxLen; omega
      clear hf hsm ha d1 d2 d3 d4 hbk hbk'
      go_wp2_with (
        (at_mapUpdate
         refine wpList_mapUpdate_own _ rfl _ _ _ 58 rfl 9 61 keyT Try.underlying58 Rv w1.heap.size k D rfl D1.out hkm (.string a.1) (.slice A' n' c') (kl a.1) rfl rfl (keyOf_s Hsm.out) (.held (.slice A' n' c')) [] rfl ?_
         intro w5 hown5 hgrow5
         have Hown5 := hide hown5
         have Hgrow5 := hide hgrow5
         clear hown5 hgrow5))
      have hkeep : ∀ q : Addr, q.block < w.heap.size → w5.cell? q = (wr.alloc (.cells #[Value.string a.1, Value.slice A' n' c'] 31)).cell? q := fun q hq =>
        World.cell?_of_block (Hgrow5.out.block _ (by simp; omega) (fun e => by injection e; omega))
      have HB5 : Hid (Book w5 (· < w.heap.size) w1.heap.size (k + 1) (X.take (k + 1))) := by
        show Book _ _ _ _ _
        rw [htk.out]
        exact Book.snoc D2.out D3.out D4.out hnew.out ((Hf.out.keep fun q hq => (((Below.refl w.heap.size wr).alloc hsz _).cell hq)).keep hkeep) hkeep Hown5.out
      have HW5 : Hid (Below w.heap.size w w5) := Hba.out.grown Hgrow5.out (by simp; omega) (fun q hq => by injection hq; omega)
      clear hkeep
      go_roundw
      case rel => exact ⟨k + 1, by omega, by go_num, HB5, HW5⟩
      case measure => simp [intOf]; omega
    · have HE : Hid (X.take k = X) := List.take_of_length_le (by have := hl.out; omega)
      go_wp2_with fail
      go_ret2
      refine .inr ⟨Hv.out, _, rfl, hsz1, ?_, hbr.out⟩
      have h := hbk.out
      rw [HE.out] at h
      obtain ⟨D, d1, d2⟩ := h
      exact ⟨D, d1.mono (by omega), d2⟩
end Go.Proofs.Ytohodhogbdcdmab
