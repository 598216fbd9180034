/- copyBoxes of the program: the capacity is just the length. -/
import Derived.Test.YtfncmkmhdddmiaaBpl
import Derived.Test.YtfncmkmhdddmiaaBsp
set_option linter.unusedVariables false
set_option linter.unusedSimpArgs false
namespace Go.Proofs.Ytfncmkmhdddmiaa
open Go.RowKit Go.BigFrame

/-- append within the capacity. -/
theorem append_room_run {P : Program} (w : World) (base : Nat) (t ty e : TypeId) (i : TypeInfo) (size : Nat) (ht : P.underlying t = some (.slice e)) (hi : P.info? e = some i) (hsize : i.size = size)
    (g n cap : Nat) (xs : List Value) (hown : w.ownsRow base e size (.slice (some ⟨g, 0, none⟩) n cap) n xs)
    (B : Nat) (A : Option Addr) (m c : Nat) (news : List Value) (hr : Rd w B size A m news) (h1 : ∀ u ∈ news, u.oneCell' = true) (hm : 0 < m) (hroom : n + m ≤ cap) :
    ∃ w', (Builtin.append_ #[t, t] ty #[.slice (some ⟨g, 0, none⟩) n cap, .slice A m c]).run P w = .ok (.slice (some ⟨g, 0, none⟩) (n + m) cap) w' ∧ w'.ownsRow base e size (.slice (some ⟨g, 0, none⟩) (n + m) cap) (n + m) (xs ++ news) ∧ w.grownBy w' (some g) := by
  subst hsize
  obtain ⟨sg, off, rfl, hsb, hcells⟩ := hr.2 hm
  have hl := hr.1
  have hlen : (xs ++ news).length = (n + m) * i.size := by rw [List.length_append, hown.1, hl, Nat.add_mul]
  rcases hown.2 with ⟨h, _⟩ | ⟨g', cap', cur, hv, hbg, hg, hnc, hcm, hcs, htake⟩
  · cases h
  · injection hv with e1 _ e3
    injection e1 with e1
    injection e1 with e1
    subst e1 e3
    have hfit : n * i.size + news.length ≤ cur.size := by rw [hl, hcs, ← Nat.add_mul]; exact Nat.mul_le_mul_right _ hroom
    have hrun := run_append_room (P := P) w t ty e i ht hi g n cap cur hg ⟨sg, off, none⟩ m c news hl (fun j u hu => by rw [add_at]; exact hcells j u hu) h1 hroom hfit
    refine ⟨_, hrun, ⟨hlen, .inr ⟨g, cap, _, rfl, hbg, setRow_heap w g cur _ e _ hg, hroom, hcm, ?_, ?_⟩⟩, ⟨rfl, rfl, rfl, by simp, fun k _ hk => setRow_other w g k _ (fun e => hk (by simp [e]))⟩⟩
    · simp only [List.size_toArray, List.length_append, List.length_take, List.length_drop, Array.length_toList]
      omega
    · rw [htake, ← hlen]
      exact List.take_left
theorem step_append_roomy {P : Program} {w : World} {ops : Array Oper} {o : Oper} {a : Act} {K : Act → World → Prop} {Q : Exit → Act → World → Prop} {E : Prop} (hgd : o.guard = none) (s x : Operand) (t : TypeId)
    (ho : o.op = .call { callee := .builtin .append, args := #[s, x], argTypes := #[t, t] })
    (base : Nat) (e : TypeId) (i : TypeInfo) (size : Nat) (ht : P.underlying t = some (.slice e)) (hi : P.info? e = some i) (hsize : i.size = size)
    (g n cap : Nat) (xs : List Value) (hs : a.eval s = .slice (some ⟨g, 0, none⟩) n cap) (hown : w.ownsRow base e size (.slice (some ⟨g, 0, none⟩) n cap) n xs)
    (B : Nat) (A : Option Addr) (m c : Nat) (news : List Value) (hx : a.eval x = .slice A m c) (hr : Rd w B size A m news) (h1 : ∀ u ∈ news, u.oneCell' = true) (hm : 0 < m) (hroom : n + m ≤ cap)
    (h : ∀ w', w'.ownsRow base e size (.slice (some ⟨g, 0, none⟩) (n + m) cap) (n + m) (xs ++ news) → w.grownBy w' (some g) → K (a.put o.dst (.slice (some ⟨g, 0, none⟩) (n + m) cap)) w') :
    if Region.wanted o (yielded ops a.tmps) = true then Oper.wp P o a w K Q else E := by
  have hw : Region.wanted o (yielded ops a.tmps) = true := by simp [Region.wanted, hgd]
  rw [if_pos hw]
  obtain ⟨w', hrun, h2, h3⟩ := append_room_run (P := P) w base t o.type e i size ht hi hsize g n cap xs hown B A m c news hr h1 hm hroom
  unfold Oper.wp execOp
  simp only [ho, resolve, invoke, builtin, Sem.run_bind, Sem.run_pure, Result.andThen_ok, List.map_toArray, List.map_cons, List.map_nil, hs, hx, hrun]
  exact h w' h2 h3

/-- A copy of boxes, just as large. -/
def Copied (w : World) (X : List Bx) (n : Nat) (e : Ending) (w' : World) : Prop := ∃ g Y, e = .returned (.slice (some ⟨g, 0, none⟩) n n) ∧ bxV Y = X ∧ NestB w.heap.size w' (some ⟨g, 0, none⟩) n n Y ∧ Below w.heap.size w w'

set_option maxHeartbeats 4000000 in
set_option maxRecDepth 100000 in
theorem copy_any (A : Option Addr) (n c : Nat) (X : List Bx) (w : World) (hX : Bxs w w.heap.size A n X) (hn : n ≤ 10) (h6 : ∀ a ∈ X, a.2.length ≤ 6) :
    Calls Try.prog 58 #[.slice A n c] w (Copied w X n) := by
  obtain ⟨i2, hi2, hz0, hz1, hz2⟩ := info_parts' box_info
  have hUB := Try.underlying31
  have hl := hide hX.1
  have HX := hide hX
  have H6 := hide h6
  have b1 : i2.bytes * n ≤ 281474976710656 := by rw [hz2]; omega
  have b2 : n ≤ maxLen := by unfold maxLen; omega
  clear hX h6
  go_enter Try.func58, Try.ntmps58
  go_wp2_with (
    (at_make
     refine wpList_make_own _ rfl (.const (.int .i64 0)) (.tmp 7) _ rfl w.heap.size 40 i2 _ 2 hUB hi2 hz0 hz1 .i64 .i64 (n : Int) n rfl rfl rfl b1 b2 (Nat.le_refl _) ?_
     intro w1 own1 gr1
     have Hb1 : Hid (Below w.heap.size w w1) := (Below.refl _ _).grown gr1 (Nat.le_refl _) (by simp)
     have HN1 : Hid (NestB w.heap.size w1 (some ⟨w.heap.size, 0, none⟩) 0 n []) := ⟨own1, fun y h => (by cases h), fun y h => (by cases h), List.Pairwise.nil⟩
     clear gr1 own1))
  go_loopw [3, 11] (fun u i wr => ∃ (k : Nat) (Y : List BxV), k ≤ n ∧ i = .int .i64 k ∧ u = .slice (some ⟨w.heap.size, 0, none⟩) k n ∧ Hid (bxV Y = X.take k) ∧ Hid (NestB w.heap.size wr (some ⟨w.heap.size, 0, none⟩) k n Y) ∧ Hid (Below w.heap.size w wr)) (fun _ i _ => n - (intOf i).toNat)
  case atStart => exact ⟨0, [], Nat.zero_le _, rfl, rfl, rfl, HN1.out, Hb1.out⟩
  case round =>
    obtain ⟨k, Y, hk, rfl, rfl, hY, hN, hbr⟩ := hrel
    have hsz := hbr.out.size
    by_cases hlt : k < n
    · obtain ⟨a, ha⟩ : ∃ a, X[k]? = some a := ⟨X[k]'(by have := hl.out; omega), List.getElem?_eq_getElem _⟩
      obtain ⟨g, off, A', n', c', rfl, hg, hc0, hc1, hn', hm', hf⟩ := (HX.out.below hbr.out).at' ha
      have HF : Hid (Ints wr w.heap.size A' n' a.2) := hf.ints
      have hn6 : n' ≤ 6 := by have h1 := H6.out a (List.mem_of_getElem? ha); have h3 := HF.out.1; omega
      have HY2 : Hid (∀ v, bxV (Y ++ [(a.1, a.2, v)]) = X.take (k + 1)) := fun v => by rw [bxV_app, hY.out, List.take_add_one, ha]; rfl
      have hcp0 : (wr.alloc (.cells #[Value.string a.1, Value.slice A' n' c'] 40)).cell? ⟨wr.heap.size, 0, none⟩ = some (.string a.1) := (Blk.new _ _ _).cell 0
      have hcp1 : (wr.alloc (.cells #[Value.string a.1, Value.slice A' n' c'] 40)).cell? ⟨wr.heap.size, 1, none⟩ = some (.slice A' n' c') := (Blk.new _ _ _).cell 1
      have HF5 : Hid (Ints ((wr.alloc (.cells #[Value.string a.1, Value.slice A' n' c'] 40)).drew) ((wr.alloc (.cells #[Value.string a.1, Value.slice A' n' c'] 40)).drew).heap.size A' n' a.2) := (HF.out.below (((Below.refl _ _).alloc hsz _).drew)).more (by simp; omega)
      have HL5 : Hid (∀ w6, Below ((wr.alloc (.cells #[Value.string a.1, Value.slice A' n' c'] 40)).drew).heap.size ((wr.alloc (.cells #[Value.string a.1, Value.slice A' n' c'] 40)).drew) w6 → Below wr.heap.size wr w6 ∧ w6.cell? ⟨wr.heap.size, 0, none⟩ = some (.string a.1)) := fun w6 h =>
        ⟨(((Below.refl _ _).alloc (Nat.le_refl _) _).drew).trans (h.mono (by simp)), (h.cell (p := ⟨wr.heap.size, 0, none⟩) (by simp)).trans hcp0⟩
      clear hf ha
      go_wp2_with fail
      go_region_law (first
        | (go_simp
           go_at_call 63
           refine (cloneI A' n' c' a.2 _ (by exact HF5.out) (by omega)).mono ?_
           rintro e w6 ⟨v6, rfl, ⟨A6, n6, c6, rfl, own6⟩, hb6⟩
           obtain ⟨hb6', hcp6⟩ := HL5.out w6 hb6
           have Own6 := hide (own_base own6 (show wr.heap.size ≤ _ by simp))
           have Hb6 := hide hb6'
           clear own6 hb6 hb6')
        | (refine step_append_roomy rfl (.tmp 15) (.tmp 22) _ rfl w.heap.size 40 i2 2 hUB hi2 hz1 w.heap.size k n (wcells Y) rfl (((hN.out.below Hb6.out).row).alloc _) (w6.heap.size + 1) (some ⟨w6.heap.size, 0, none⟩) 1 _ [Value.string a.1, .slice A6 n6 c6] rfl (rd_two _ _ _ _) (by intro u hu; simp at hu; rcases hu with rfl | rfl <;> rfl) (by omega) (by omega) ?_
           intro w8 own8 gr8
           have Hb8 : Hid (Below w.heap.size w w8) := Below.own ((hbr.out.trans (Hb6.out.mono hsz)).alloc (by have := Hb6.out.size; omega) _) gr8 (((hN.out.below Hb6.out).row).alloc _) (Nat.le_refl _) (by have := Hb6.out.size; simp; omega)
           obtain ⟨A8, c8, e8, N8⟩ := NestB.snoc hN.out Hb6.out Own6.out hsz own8 gr8 (.inl rfl)
           injection e8 with e8 _ e9
           subst e8 e9
           have HN8 := hide N8
           clear gr8 own8 N8)
        | fail)
      all_goals
        go_wp2_with fail
        go_roundw
        case rel => exact ⟨k + 1, _, by omega, by go_num, rfl, HY2.out _, HN8.out, Hb8.out⟩
        case measure => simp [intOf]; omega
    · have hkn : k = n := by omega
      subst hkn
      have HY2 : Hid (bxV Y = X) := by show _ = _; rw [hY.out, List.take_of_length_le (by have := hl.out; omega)]
      go_wp2_with fail
      go_ret
      exact ⟨_, Y, rfl, HY2.out, hN.out, hbr.out⟩
end Go.Proofs.Ytfncmkmhdddmiaa
