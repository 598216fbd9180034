/- Texts joined: Bcp, Ins, Ins2, Ibx. -/
import Derived.Test.YtimpmlmkhjeajaaZi
import Derived.Test.YtimpmlmkhjeajaaBsp
import Derived.Lib.AppendZerosOnto
import Derived.Laws.CopyOwn
import Derived.Shelf.Spec.SlicesInsert
import Derived.Test.YtimpmlmkhjeajaaZh

/- copyBoxes of the program: the capacity is just the length. -/
set_option linter.unusedVariables false
set_option linter.unusedSimpArgs false
namespace Go.Proofs.Ytimpmlmkhjeajaa
open Go.RowKit Go.BigFrame

/-- append within the capacity. -/
theorem append_room_run {P : Program} (w : World) (base : Nat) (t ty e : TypeId) (i : TypeInfo) (size : Nat) (ht : P.underlying t = some (.slice e)) (hi : P.info? e = some i) (hsize : i.size = size)
    (g n cap : Nat) (xs : List Value) (hown : w.ownsRow base e size (.slice (some ⟨g, 0, none⟩) n cap) n xs)
    (B : Nat) (A : Option Addr) (m c : Nat) (news : List Value) (hr : Rd w B size A m news) (h1 : ∀ u ∈ news, u.oneCell' = true) (hm : 0 < m) (hroom : n + m ≤ cap) :
    ∃ w', (Builtin.append_ #[t, t] ty #[.slice (some ⟨g, 0, none⟩) n cap, .slice A m c]).run P w = .ok (.slice (some ⟨g, 0, none⟩) (n + m) cap) w' ∧ w'.ownsRow base e size (.slice (some ⟨g, 0, none⟩) (n + m) cap) (n + m) (xs ++ news) ∧ w.grownBy w' (some g) := by
  subst hsize
  obtain ⟨sg, off, rfl, hsb, hcells⟩ := hr.2 hm
  have hl := hr.1
  have hlen : (xs ++ news).length = (n + m) * i.size := by rw [List.length_append, hown.1, hl, Nat.add_mul]
  rcases hown.2 with ⟨h, _⟩ | ⟨g', cap', cur, hv, hbg, hg, hnc, hcm, hcs, htake⟩
  · cases h
  · injection hv with e1 _ e3
    injection e1 with e1
    injection e1 with e1
    subst e1 e3
    have hfit : n * i.size + news.length ≤ cur.size := by rw [hl, hcs, ← Nat.add_mul]; exact Nat.mul_le_mul_right _ hroom
    have hrun := run_append_room (P := P) w t ty e i ht hi g n cap cur hg ⟨sg, off, none⟩ m c news hl (fun j u hu => by rw [add_at]; exact hcells j u hu) h1 hroom hfit
    refine ⟨_, hrun, ⟨hlen, .inr ⟨g, cap, _, rfl, hbg, setRow_heap w g cur _ e _ hg, hroom, hcm, ?_, ?_⟩⟩, ⟨rfl, rfl, rfl, by simp, fun k _ hk => setRow_other w g k _ (fun e => hk (by simp [e]))⟩⟩
    · simp only [List.size_toArray, List.length_append, List.length_take, List.length_drop, Array.length_toList]
      omega
    · rw [htake, ← hlen]
      exact List.take_left
theorem step_append_roomy {P : Program} {w : World} {ops : Array Oper} {o : Oper} {a : Act} {K : Act → World → Prop} {Q : Exit → Act → World → Prop} {E : Prop} (hgd : o.guard = none) (s x : Operand) (t : TypeId)
    (ho : o.op = .call { callee := .builtin .append, args := #[s, x], argTypes := #[t, t] })
    (base : Nat) (e : TypeId) (i : TypeInfo) (size : Nat) (ht : P.underlying t = some (.slice e)) (hi : P.info? e = some i) (hsize : i.size = size)
    (g n cap : Nat) (xs : List Value) (hs : a.eval s = .slice (some ⟨g, 0, none⟩) n cap) (hown : w.ownsRow base e size (.slice (some ⟨g, 0, none⟩) n cap) n xs)
    (B : Nat) (A : Option Addr) (m c : Nat) (news : List Value) (hx : a.eval x = .slice A m c) (hr : Rd w B size A m news) (h1 : ∀ u ∈ news, u.oneCell' = true) (hm : 0 < m) (hroom : n + m ≤ cap)
    (h : ∀ w', w'.ownsRow base e size (.slice (some ⟨g, 0, none⟩) (n + m) cap) (n + m) (xs ++ news) → w.grownBy w' (some g) → K (a.put o.dst (.slice (some ⟨g, 0, none⟩) (n + m) cap)) w') :
    if Region.wanted o (yielded ops a.tmps) = true then Oper.wp P o a w K Q else E := by
  have hw : Region.wanted o (yielded ops a.tmps) = true := by simp [Region.wanted, hgd]
  rw [if_pos hw]
  obtain ⟨w', hrun, h2, h3⟩ := append_room_run (P := P) w base t o.type e i size ht hi hsize g n cap xs hown B A m c news hr h1 hm hroom
  unfold Oper.wp execOp
  simp only [ho, resolve, invoke, builtin, Sem.run_bind, Sem.run_pure, Result.andThen_ok, List.map_toArray, List.map_cons, List.map_nil, hs, hx, hrun]
  exact h w' h2 h3

/-- A copy of boxes, just as large. -/
def Copied (w : World) (X : List Bx) (n : Nat) (e : Ending) (w' : World) : Prop := ∃ g Y, e = .returned (.slice (some ⟨g, 0, none⟩) n n) ∧ bxV Y = X ∧ NestB w.heap.size w' (some ⟨g, 0, none⟩) n n Y ∧ Below w.heap.size w w'

set_option maxHeartbeats 4000000 in
set_option maxRecDepth 100000 in
theorem copy_any (A : Option Addr) (n c : Nat) (X : List Bx) (w : World) (hX : Bxs w w.heap.size A n X) (hn : n ≤ 10) (h6 : ∀ a ∈ X, a.2.length ≤ 6) :
    Calls Try.prog 74 #[.slice A n c] w (Copied w X n) := by
  obtain ⟨i2, hi2, hz0, hz1, hz2⟩ := info_parts' box_info
  have hUB := Try.underlying41
  have hl := hide hX.1
  have HX := hide hX
  have H6 := hide h6
  have b1 : i2.bytes * n ≤ 281474976710656 := by rw [hz2]; omega
  have b2 : n ≤ maxLen := by unfold maxLen; omega
  clear hX h6
  go_enter Try.func74, Try.ntmps74
  go_wp2_with (
    (at_make
     refine wpList_make_own _ rfl (.const (.int .i64 0)) (.tmp 7) _ rfl w.heap.size 55 i2 _ 2 hUB hi2 hz0 hz1 .i64 .i64 (n : Int) n rfl rfl rfl b1 b2 (Nat.le_refl _) ?_
     intro w1 own1 gr1
     have Hb1 : Hid (Below w.heap.size w w1) := (Below.refl _ _).grown gr1 (Nat.le_refl _) (by simp)
     have HN1 : Hid (NestB w.heap.size w1 (some ⟨w.heap.size, 0, none⟩) 0 n []) := ⟨own1, fun y h => (by cases h), fun y h => (by cases h), List.Pairwise.nil⟩
     clear gr1 own1))
  go_loopw [3, 11] (fun u i wr => ∃ (k : Nat) (Y : List BxV), k ≤ n ∧ i = .int .i64 k ∧ u = .slice (some ⟨w.heap.size, 0, none⟩) k n ∧ Hid (bxV Y = X.take k) ∧ Hid (NestB w.heap.size wr (some ⟨w.heap.size, 0, none⟩) k n Y) ∧ Hid (Below w.heap.size w wr)) (fun _ i _ => n - (intOf i).toNat)
  case atStart => exact ⟨0, [], Nat.zero_le _, rfl, rfl, rfl, HN1.out, Hb1.out⟩
  case round =>
    obtain ⟨k, Y, hk, rfl, rfl, hY, hN, hbr⟩ := hrel
    have hsz := hbr.out.size
    by_cases hlt : k < n
    · obtain ⟨a, ha⟩ : ∃ a, X[k]? = some a := ⟨X[k]'(by have := hl.out; omega), List.getElem?_eq_getElem _⟩
      obtain ⟨g, off, A', n', c', rfl, hg, hc0, hc1, hn', hm', hf⟩ := (HX.out.below hbr.out).at' ha
      have HF : Hid (Ints wr w.heap.size A' n' a.2) := hf.ints
      have hn6 : n' ≤ 6 := by have h1 := H6.out a (List.mem_of_getElem? ha); have h3 := HF.out.1; omega
      have HY2 : Hid (∀ v, bxV (Y ++ [(a.1, a.2, v)]) = X.take (k + 1)) := fun v => by rw [bxV_app, hY.out, List.take_add_one, ha]; rfl
      have hcp0 : (wr.alloc (.cells #[Value.string a.1, Value.slice A' n' c'] 55)).cell? ⟨wr.heap.size, 0, none⟩ = some (.string a.1) := (Blk.new _ _ _).cell 0
      have hcp1 : (wr.alloc (.cells #[Value.string a.1, Value.slice A' n' c'] 55)).cell? ⟨wr.heap.size, 1, none⟩ = some (.slice A' n' c') := (Blk.new _ _ _).cell 1
      have HF5 : Hid (Ints ((wr.alloc (.cells #[Value.string a.1, Value.slice A' n' c'] 55)).drew) ((wr.alloc (.cells #[Value.string a.1, Value.slice A' n' c'] 55)).drew).heap.size A' n' a.2) := (HF.out.below (((Below.refl _ _).alloc hsz _).drew)).more (by simp; omega)
      have HL5 : Hid (∀ w6, Below ((wr.alloc (.cells #[Value.string a.1, Value.slice A' n' c'] 55)).drew).heap.size ((wr.alloc (.cells #[Value.string a.1, Value.slice A' n' c'] 55)).drew) w6 → Below wr.heap.size wr w6 ∧ w6.cell? ⟨wr.heap.size, 0, none⟩ = some (.string a.1)) := fun w6 h =>
        ⟨(((Below.refl _ _).alloc (Nat.le_refl _) _).drew).trans (h.mono (by simp)), (h.cell (p := ⟨wr.heap.size, 0, none⟩) (by simp)).trans hcp0⟩
      clear hf ha
      go_wp2_with fail
      go_region_law (first
        | (go_simp
           go_at_call 86
           refine (cloneI A' n' c' a.2 _ (by exact HF5.out) (by omega)).mono ?_
           rintro e w6 ⟨v6, rfl, ⟨A6, n6, c6, rfl, own6⟩, hb6⟩
           obtain ⟨hb6', hcp6⟩ := HL5.out w6 hb6
           have Own6 := hide (own_base own6 (show wr.heap.size ≤ _ by simp))
           have Hb6 := hide hb6'
           clear own6 hb6 hb6')
        | (refine step_append_roomy rfl (.tmp 15) (.tmp 22) _ rfl w.heap.size 55 i2 2 hUB hi2 hz1 w.heap.size k n (wcells Y) rfl (((hN.out.below Hb6.out).row).alloc _) (w6.heap.size + 1) (some ⟨w6.heap.size, 0, none⟩) 1 _ [Value.string a.1, .slice A6 n6 c6] rfl (rd_two _ _ _ _) (by intro u hu; simp at hu; rcases hu with rfl | rfl <;> rfl) (by omega) (by omega) ?_
           intro w8 own8 gr8
           have Hb8 : Hid (Below w.heap.size w w8) := Below.own ((hbr.out.trans (Hb6.out.mono hsz)).alloc (by have := Hb6.out.size; omega) _) gr8 (((hN.out.below Hb6.out).row).alloc _) (Nat.le_refl _) (by have := Hb6.out.size; simp; omega)
           obtain ⟨A8, c8, e8, N8⟩ := NestB.snoc hN.out Hb6.out Own6.out hsz own8 gr8 (.inl rfl)
           injection e8 with e8 _ e9
           subst e8 e9
           have HN8 := hide N8
           clear gr8 own8 N8)
        | fail)
      all_goals
        go_wp2_with fail
        go_roundw
        case rel => exact ⟨k + 1, _, by omega, by go_num, rfl, HY2.out _, HN8.out, Hb8.out⟩
        case measure => simp [intOf]; omega
    · have hkn : k = n := by omega
      subst hkn
      have HY2 : Hid (bxV Y = X) := by show _ = _; rw [hY.out, List.take_of_length_le (by have := hl.out; omega)]
      go_wp2_with fail
      go_ret
      exact ⟨_, Y, rfl, HY2.out, hN.out, hbr.out⟩
end Go.Proofs.Ytimpmlmkhjeajaa

/- slices.Insert of one box, where there is no room. -/
set_option linter.unusedVariables false
set_option linter.unusedSimpArgs false
namespace Go.Proofs.Ytimpmlmkhjeajaa
open Go.RowKit Go.BigFrame

section
variable {P : Program}
/-- 'x[k:]' ahead of the capacity. -/
theorem slice_from_run {t e : TypeId} {i : TypeInfo} {size : Nat} (ht : P.underlying t = some (.slice e)) (hi : P.info? e = some i) (hsz : i.size = size) (g n c k : Nat) (z : Int) (hz : z = (k : Int)) (hk : k ≤ n) (hkc : k < c) (hnc : n ≤ c) (W : World) :
    (Instr.slice t (.slice (some ⟨g, 0, none⟩) n c) (some (.int .i64 z)) none none).run P W = .ok (.slice (some ⟨g, k * size, none⟩) (n - k) (c - k)) W := by
  subst hz hsz
  have h1 := run_slice_l (P := P) W t (some ⟨g, 0, none⟩) n c (by rw [ht, elem_of_underlying ht]) .i64 (k : Int) (by omega) (by omega)
  rw [h1, elem_of_underlying ht, size_run hi]
  simp only [Result.andThen, sliced, Int.toNat_natCast]
  rw [if_neg (by omega), Option.map_some, add_at, Nat.zero_add]
/-- copy of elements of whatever size into a row. -/
theorem copy_row_run (w : World) (dT sT ty elem : TypeId) (size n g o dLen dCap : Nat) (a : Addr) (sLen sCap : Nat) (cur : Array Value) (t : TypeId) (cs : List Value)
    (hu : P.underlying dT = some (.slice elem)) (hs : (P.info? elem).map (·.size) = some size)
    (hg : w.heap[g]? = some (.cells cur t (0, 0))) (hn : n = Nat.min sLen dLen) (hcs : cs.length = n * size)
    (hsrc : ∀ j v, cs[j]? = some v → w.cell? (a.add j) = some v) (hfit : o + cs.length ≤ cur.size) (h1 : ∀ v ∈ cs, v.oneCell' = true) :
    (Builtin.copy_ #[dT, sT] ty #[.slice (some ⟨g, o, none⟩) dLen dCap, .slice (some a) sLen sCap]).run P w =
      .ok (goInt n) (w.setRow g (cur.toList.take o ++ cs ++ cur.toList.drop (o + cs.length)).toArray) := by
  have hst := run_storeCells_at P g o t cs 0 cur w hg (by simpa using hfit) h1
  have hf := run_firstCells_some (P := P) w size n a sLen sCap cs hcs hsrc
  cases hq : P.info? elem with
  | none => simp [hq] at hs
  | some i =>
    have hi : i.size = size := by simpa [hq] using hs
    simp [Builtin.copy_, run_underlying hu, Builtin.lenOf, sizeOf, typeInfo, hq, hi, ← hn, hf, hst]
end

/-- The row that Insert lays: runs of its three steps. -/
structure InsRun (P : Program) (T TI e : TypeId) (w : World) (g vb n i : Nat) (cs : List Value) (x y : Value) where
  G : Nat
  w2 : World
  w3 : World
  w4 : World
  r2 : ∀ ty, (Builtin.append_ #[T, TI] ty #[.slice (some ⟨g, 0, none⟩) i n, .int .i64 ((n : Int) + 1 - (i : Int))]).run P w = .ok (.slice (some ⟨w.heap.size, 0, none⟩) (n + 1) G) w2
  r3 : ∀ ty, (Builtin.copy_ #[T, T] ty #[.slice (some ⟨w.heap.size, i * 2, none⟩) (n + 1 - i) (G - i), .slice (some ⟨vb, 0, none⟩) 1 1]).run P w2 = .ok (goInt 1) w3
  r4 : ∀ ty, (Builtin.copy_ #[T, T] ty #[.slice (some ⟨w.heap.size, (i + 1) * 2, none⟩) (n + 1 - (i + 1)) (G - (i + 1)), .slice (some ⟨g, i * 2, none⟩) (n - i) (n - i)]).run P w3.drew = .ok (goInt ((n - i : Nat) : Int)) w4
  hG : n + 1 ≤ G
  hG2 : G ≤ maxLen
  own : w4.ownsRow w.heap.size e 2 (.slice (some ⟨w.heap.size, 0, none⟩) (n + 1) G) (n + 1) (cs.take (i * 2) ++ [x, y] ++ cs.drop (i * 2))
  below : Below w.heap.size w w4
  old : ∀ k, k < w.heap.size → w2.heap[k]? = w.heap[k]?

theorem ins_run {P : Program} {T TI e : TypeId} {inf : TypeInfo} {z : Value} (w : World) (g vb n i : Nat) (cs : List Value) (x y : Value) (hT : P.underlying T = some (.slice e)) (hTI : P.underlying TI = some (.int .i64)) (hi : P.info? e = some inf) (hz : inf.zero = some z) (hsz : inf.size = 2) (hby : inf.bytes = 40) (hzs : z.cells.size = 2)
    (hin : i < n) (hn : n ≤ 1000) (hcl : cs.length = n * 2) (hg : g < w.heap.size) (hcs : ∀ j v, cs[j]? = some v → w.cell? ⟨g, j, none⟩ = some v) (h1 : ∀ v ∈ cs, v.oneCell' = true)
    (hvb : vb < w.heap.size) (hx : w.cell? ⟨vb, 0, none⟩ = some x) (hy : w.cell? ⟨vb, 1, none⟩ = some y) (hx1 : x.oneCell' = true) (hy1 : y.oneCell' = true) : Nonempty (InsRun P T TI e w g vb n i cs x y) := by
  have hik : i + (n + 1 - i) = n + 1 := by omega
  have hold : (Builtin.firstCells inf.size i (.slice (some ⟨g, 0, none⟩) i n)).run P w.drew = .ok (cs.take (i * 2)).toArray w.drew := by
    rw [hsz]
    exact run_firstCells_some w.drew 2 i ⟨g, 0, none⟩ i n (cs.take (i * 2)) (by rw [List.length_take]; omega) (fun j v hj => by
      rw [add_at, Nat.zero_add]
      rw [List.getElem?_take] at hj
      split at hj
      · exact hcs j v hj
      · cases hj)
  obtain ⟨G, hGe⟩ : ∃ G, G = grownCap w (n + 1) n e := ⟨_, rfl⟩
  have hGn : n + 1 ≤ G := by rw [hGe]; exact grownCap_ge w _ _ _
  have hGm : G ≤ maxLen := by rw [hGe]; exact grownCap_le_maxLen w _ _ _ (by unfold maxLen; omega)
  obtain ⟨ROW, hROW⟩ : ∃ ROW : Array Value, ROW = (cs.take (i * 2)).toArray ++ Builtin.zeroCells z.cells (n + 1 - i) ++ Builtin.zeroCells z.cells (G - (n + 1)) := ⟨_, rfl⟩
  have hR : ROW.size = G * 2 := by
    rw [hROW]
    simp only [Array.size_append, List.size_toArray, size_zeroCells, hzs, List.length_take, hcl]
    omega
  have hRt : ROW.toList.take (i * 2) = cs.take (i * 2) := by
    rw [hROW]
    simp only [Array.toList_append, List.append_assoc]
    rw [List.take_append_of_le_length (by rw [List.length_take, hcl]; omega), List.take_take, Nat.min_self]
  have r2 : ∀ ty, (Builtin.append_ #[T, TI] ty #[.slice (some ⟨g, 0, none⟩) i n, .int .i64 ((n : Int) + 1 - (i : Int))]).run P w = .ok (.slice (some ⟨w.heap.size, 0, none⟩) (n + 1) G) (w.drew.alloc (.cells ROW e)) := fun ty => by
    have h := Lib.run_append_grow_zeros w T TI ty e inf z .i64 .i64 hT hTI hi hz (some ⟨g, 0, none⟩) i n (cs.take (i * 2)) hold (n + 1 - i) (by omega) (by omega) (by omega) (by omega) (by rw [hby]; omega) (by rw [hby, hik]; exact growslice_fits (by omega) (by omega))
    rw [hik, ← hGe, ← hROW] at h
    rw [show (n : Int) + 1 - (i : Int) = ((n + 1 - i : Nat) : Int) by omega]
    exact h
  have hsize : (P.info? e).map (·.size) = some 2 := by rw [hi]; simp [hsz]
  obtain ⟨w2, hw2⟩ : ∃ w2, w2 = w.drew.alloc (.cells ROW e) := ⟨_, rfl⟩
  rw [← hw2] at r2
  have hN2 : w2.heap[w.heap.size]? = some (.cells ROW e (0, 0)) := by rw [hw2]; exact heap_alloc_new w.drew _
  have hb2 : Below w.heap.size w w2 := by rw [hw2]; exact ((Below.refl _ _).drew).alloc (Nat.le_refl _) _
  have hold2 : ∀ k, k < w.heap.size → w2.heap[k]? = w.heap[k]? := fun k hk => hb2.block k hk
  have c2 : ∀ (b o : Nat) (v : Value), b < w.heap.size → w.cell? ⟨b, o, none⟩ = some v → w2.cell? ⟨b, o, none⟩ = some v := fun b o v hb h => (hb2.cell (p := ⟨b, o, none⟩) hb).trans h
  have r3 : ∀ ty, (Builtin.copy_ #[T, T] ty #[.slice (some ⟨w.heap.size, i * 2, none⟩) (n + 1 - i) (G - i), .slice (some ⟨vb, 0, none⟩) 1 1]).run P w2 = .ok (goInt 1) (w2.setRow w.heap.size (ROW.toList.take (i * 2) ++ [x, y] ++ ROW.toList.drop (i * 2 + 2)).toArray) := fun ty =>
    copy_row_run w2 T T ty e 2 1 w.heap.size (i * 2) (n + 1 - i) (G - i) ⟨vb, 0, none⟩ 1 1 ROW e [x, y] hT hsize hN2 (by simp only [Nat.min_def]; split <;> omega) rfl
      (fun j v hj => by
        rw [add_at, Nat.zero_add]
        rcases j with _ | _ | j
        · simp at hj; subst hj; exact c2 _ _ _ hvb hx
        · simp at hj; subst hj; exact c2 _ _ _ hvb hy
        · simp at hj) (by simp; omega) (by intro v hv; simp at hv; rcases hv with rfl | rfl; exact hx1; exact hy1)
  obtain ⟨R3, hR3⟩ : ∃ R3 : List Value, R3 = ROW.toList.take (i * 2) ++ [x, y] ++ ROW.toList.drop (i * 2 + 2) := ⟨_, rfl⟩
  rw [← hR3] at r3
  have hR3l : R3.length = G * 2 := by
    rw [hR3]
    simp only [List.length_append, List.length_take, List.length_drop, Array.length_toList, hR, List.length_cons, List.length_nil]
    omega
  have hR3t : R3.take ((i + 1) * 2) = cs.take (i * 2) ++ [x, y] := by
    rw [hR3, hRt, List.take_append_of_le_length (by simp [hcl]; omega), List.take_of_length_le (by simp [hcl]; omega)]
  obtain ⟨w3, hw3⟩ : ∃ w3, w3 = w2.setRow w.heap.size R3.toArray := ⟨_, rfl⟩
  rw [← hw3] at r3
  have hN3 : w3.heap[w.heap.size]? = some (.cells R3.toArray e (0, 0)) := by rw [hw3]; exact setRow_heap w2 w.heap.size ROW _ e _ hN2
  have hb3 : Below w.heap.size w w3 := by rw [hw3]; exact below_setRow hb2 (Nat.le_refl _) _
  have hdl : (cs.drop (i * 2)).length = (n - i) * 2 := by rw [List.length_drop, hcl]; omega
  have r4 : ∀ ty, (Builtin.copy_ #[T, T] ty #[.slice (some ⟨w.heap.size, (i + 1) * 2, none⟩) (n + 1 - (i + 1)) (G - (i + 1)), .slice (some ⟨g, i * 2, none⟩) (n - i) (n - i)]).run P w3.drew = .ok (goInt (n - i : Nat)) (w3.drew.setRow w.heap.size (R3.toArray.toList.take ((i + 1) * 2) ++ cs.drop (i * 2) ++ R3.toArray.toList.drop ((i + 1) * 2 + (cs.drop (i * 2)).length)).toArray) := fun ty =>
    copy_row_run w3.drew T T ty e 2 (n - i) w.heap.size ((i + 1) * 2) (n + 1 - (i + 1)) (G - (i + 1)) ⟨g, i * 2, none⟩ (n - i) (n - i) R3.toArray e (cs.drop (i * 2)) hT hsize hN3 (by simp only [Nat.min_def]; split <;> omega) hdl
      (fun j v hj => by
        rw [add_at]
        rw [List.getElem?_drop] at hj
        exact (hb3.cell (p := ⟨g, i * 2 + j, none⟩) hg).trans (hcs _ v hj)) (by rw [hdl]; simp [hR3l]; omega) (fun v hv => h1 v (List.mem_of_mem_drop hv))
  obtain ⟨R4, hR4⟩ : ∃ R4 : List Value, R4 = R3.toArray.toList.take ((i + 1) * 2) ++ cs.drop (i * 2) ++ R3.toArray.toList.drop ((i + 1) * 2 + (cs.drop (i * 2)).length) := ⟨_, rfl⟩
  rw [← hR4] at r4
  have hlen : (cs.take (i * 2) ++ [x, y] ++ cs.drop (i * 2)).length = (n + 1) * 2 := by
    simp only [List.length_append, List.length_take, List.length_drop, List.length_cons, List.length_nil, hcl]; omega
  refine ⟨⟨G, w2, w3, w3.drew.setRow w.heap.size R4.toArray, r2, r3, r4, hGn, hGm, ⟨hlen, .inr ⟨w.heap.size, G, R4.toArray, rfl, Nat.le_refl _, setRow_heap w3.drew w.heap.size R3.toArray _ e _ hN3, hGn, hGm, ?_, ?_⟩⟩, below_setRow hb3.drew (Nat.le_refl _) _, hold2⟩⟩
  · rw [hR4]
    simp only [List.toList_toArray, List.size_toArray, List.length_append, List.length_take, List.length_drop, hcl, hR3l]
    omega
  · rw [List.toList_toArray, hR4, List.toList_toArray, hR3t, ← hlen]
    exact List.take_left
end Go.Proofs.Ytimpmlmkhjeajaa

/- slices.Insert of one box: the walk. -/
set_option linter.unusedVariables false
set_option linter.unusedSimpArgs false
namespace Go.Proofs.Ytimpmlmkhjeajaa
open Go.RowKit Go.BigFrame

/-- Boxes with a further one, of no numbers, at a place. -/
def insV (Y : List BxV) (i : Nat) (s : ByteArray) : List BxV := Y.take i ++ [(s, [], .slice none 0 0)] ++ Y.drop i
def Inserted (base n i : Nat) (Y : List BxV) (s : ByteArray) (w : World) (e : Ending) (w' : World) : Prop := ∃ A c, e = .returned (.slice A (n + 1) c) ∧ NestB base w' A (n + 1) c (insV Y i s) ∧ Below base w w'

theorem nest_insert {base g n i N G : Nat} {Y : List BxV} {s : ByteArray} {w W w4 : World} (hN : NestB base w (some ⟨g, 0, none⟩) n n Y) (hb : base ≤ w.heap.size) (hW : Below w.heap.size w W) (hNW : N = W.heap.size)
    (own : w4.ownsRow N 55 2 (.slice (some ⟨N, 0, none⟩) (n + 1) G) (n + 1) (wcells (insV Y i s))) (hb4 : Below N W w4) : NestB base w4 (some ⟨N, 0, none⟩) (n + 1) G (insV Y i s) := by
  subst hNW
  have hs := hW.size
  have hb' : Below w.heap.size w w4 := hW.trans (hb4.mono hs)
  have hmem : ∀ y ∈ insV Y i s, y ∈ Y ∨ y = (s, [], .slice none 0 0) := fun y hy => by
    rcases List.mem_append.1 hy with h | h
    · rcases List.mem_append.1 h with h | h
      · exact .inl (List.mem_of_mem_take h)
      · exact .inr (List.mem_singleton.1 h)
    · exact .inl (List.mem_of_mem_drop h)
  refine ⟨own_base own (by omega), fun y hy => ?_, fun y hy b hb1 hb2 => ?_, ?_⟩
  · rcases hmem y hy with h | rfl
    · exact (hN.ids y h).kept (row := none) (grown_of_below hb') (by cases y.2.2.ownBlock <;> simp)
    · exact World.ownsRow_nil _ _ _ _
  · rcases hmem y hy with h | rfl
    · have := (hN.ids y h).lt b hb1
      simp [Value.ownBlock] at hb2
      omega
    · simp [Value.ownBlock] at hb1
  · unfold insV
    rw [List.append_assoc, List.singleton_append, List.pairwise_append]
    have h2 := hN.two
    refine ⟨h2.sublist (List.take_sublist _ _), List.pairwise_cons.2 ⟨fun z _ b hb1 => by simp [Value.ownBlock] at hb1, h2.sublist (List.drop_sublist _ _)⟩, fun y hy z hz b hb1 hb2 => ?_⟩
    rcases List.mem_cons.1 hz with rfl | hz
    · simp [Value.ownBlock] at hb2
    · have h3 : (Y.take i ++ Y.drop i).Pairwise fun y z => ∀ b, y.2.2.ownBlock = some b → z.2.2.ownBlock ≠ some b := by rw [List.take_append_drop]; exact h2
      exact (List.pairwise_append.1 h3).2.2 y hy z hz b hb1 hb2

set_option maxHeartbeats 4000000 in
set_option maxRecDepth 100000 in
theorem insert_any (base g n i : Nat) (z : Int) (Y : List BxV) (s : ByteArray) (w : World) (hz : z = (i : Int)) (hN : NestB base w (some ⟨g, 0, none⟩) n n Y) (hin : i ≤ n) (hn : n ≤ 100) (hb : base ≤ w.heap.size) :
    Calls Try.prog 110 #[.slice (some ⟨g, 0, none⟩) n n, .int .i64 z, .slice (some ⟨w.heap.size, 0, none⟩) 1 1] (w.alloc (.cells #[.string s, .slice none 0 0] 55)) (Inserted base n i Y s w) := by
  subst hz
  obtain ⟨i2, hi2, hz0, hz1, hz2⟩ := info_parts' box_info
  have hUB := Try.underlying41
  have HN := hide hN
  have hba := (Below.refl w.heap.size w).alloc (Nat.le_refl _) (.cells #[.string s, .slice none 0 0] 55)
  have Hba := hide hba
  by_cases hlt : i < n
  · have hg : g < w.heap.size := (hN.row.lt g rfl).2
    have hcl : (wcells Y).length = n * 2 := hN.row.1
    obtain ⟨R⟩ := ins_run (P := Try.prog) (T := 41) (TI := 3) (e := 55) (inf := i2) (w.alloc (.cells #[.string s, .slice none 0 0] 55)) g w.heap.size n i (wcells Y) (.string s) (.slice none 0 0) hUB Try.underlying3 hi2 hz0 hz1 hz2 rfl hlt (by omega) hcl (by simp; omega)
      (fun j v hj => by
        have hj2 : j < n * 2 := by rw [← hcl]; exact (List.getElem?_eq_some_iff.1 hj).1
        exact (hba.cell (p := ⟨g, j, none⟩) hg).trans ((hN.row.cellAt j hj2).trans hj)) (wcells_one hN.ids) (by simp) ((Blk.new _ _ _).cell 0) ((Blk.new _ _ _).cell 1) rfl rfl
    have hsz : (w.alloc (.cells #[.string s, .slice none 0 0] 55)).heap.size = w.heap.size + 1 := by simp
    have r2 := R.r2
    have r3 := R.r3
    have r4 := R.r4
    have hG := R.hG
    have hG2 := R.hG2
    have own := R.own
    have hb4 := R.below
    rw [wcells_take, wcells_drop] at own
    have own' : R.w4.ownsRow (w.alloc (.cells #[.string s, .slice none 0 0] 55)).heap.size 55 2 (.slice (some ⟨(w.alloc (.cells #[.string s, .slice none 0 0] 55)).heap.size, 0, none⟩) (n + 1) R.G) (n + 1) (wcells (insV Y i s)) := by
      unfold insV; rw [wcells_app, wcells_app]; exact own
    have HNest := hide (nest_insert hN hb hba rfl own' hb4)
    have HB4 := hide ((hba.mono hb).trans (hb4.mono (by simp; omega)))
    rw [hsz] at r2 r3 r4 HNest
    generalize R.G = G at *
    generalize R.w2 = w2 at *
    generalize R.w3 = w3 at *
    generalize R.w4 = w4 at *
    have s1 : ∀ W : World, (Instr.slice 41 (.slice (some ⟨g, 0, none⟩) n n) (some (.int .i64 (i : Int))) none none).run Try.prog W = .ok (.slice (some ⟨g, i * 2, none⟩) (n - i) (n - i)) W := slice_from_run hUB hi2 hz1 g n n i (i : Int) rfl hin hlt (Nat.le_refl _)
    have s2 : ∀ W : World, (Instr.slice 41 (.slice (some ⟨g, 0, none⟩) n n) none (some (.int .i64 (i : Int))) none).run Try.prog W = .ok (.slice (some ⟨g, 0, none⟩) i n) W := slice_to_run hUB hi2 (some ⟨g, 0, none⟩) n n i (i : Int) rfl hin (Nat.le_refl _)
    have s3 : ∀ W : World, (Instr.slice 41 (.slice (some ⟨w.heap.size + 1, 0, none⟩) (n + 1) G) (some (.int .i64 (i : Int))) none none).run Try.prog W = .ok (.slice (some ⟨w.heap.size + 1, i * 2, none⟩) (n + 1 - i) (G - i)) W := slice_from_run hUB hi2 hz1 (w.heap.size + 1) (n + 1) G i (i : Int) rfl (by omega) (by omega) hG
    have s4 : ∀ W : World, (Instr.slice 41 (.slice (some ⟨w.heap.size + 1, 0, none⟩) (n + 1) G) (some (.int .i64 ((i : Int) + 1))) none none).run Try.prog W = .ok (.slice (some ⟨w.heap.size + 1, (i + 1) * 2, none⟩) (n + 1 - (i + 1)) (G - (i + 1))) W := slice_from_run hUB hi2 hz1 (w.heap.size + 1) (n + 1) G (i + 1) ((i : Int) + 1) (by omega) (by omega) (by omega) hG
    have hne : ((i : Int) == (n : Int)) = false := by simp; omega
    have hlti : (i : Int) < (n : Int) := by omega
    have hw1 : IntKind.i64.wrap ((i : Int) + 1) = (i : Int) + 1 := by rw [IntKind.wrap_i64]; omega
    have hb1 : (0 : Int) ≤ (i : Int) + 1 := by omega
    have hb3 : (i : Int) + 1 ≤ (n : Int) + 1 := by omega
    have htn : ((i : Int) + 1).toNat = i + 1 := by omega
    have hGim : ¬ (G = i + 1) := by omega
    clear own own' hb4 hsz hba hcl hN R
    go_enter Try.func110, Try.ntmps110
    go_wp2_with (first
      | (at_builtin; refine Lib.wpList_append_run _ rfl _ _ _ _ rfl _ _ rfl rfl _ _ (r2 _) ?_)
      | (at_builtin; refine wpList_copy_runI _ rfl _ _ _ _ rfl _ _ rfl rfl (r3 _) ?_)
      | fail)
    go_region_law (refine step_copy_runI rfl (.tmp 50) (.tmp 53) 41 41 rfl (.slice (some ⟨w.heap.size + 1, (i + 1) * 2, none⟩) (n + 1 - (i + 1)) (G - (i + 1))) (.slice (some ⟨g, i * 2, none⟩) (n - i) (n - i)) (by simp [Act.eval, Act.put]) (by simp [Act.eval, Act.put]) (r4 3) ?_)
    all_goals
      go_wp2_with fail
      go_ret
      exact ⟨_, _, rfl, HNest.out, HB4.out⟩
  · obtain rfl : i = n := by omega
    obtain ⟨D, hD, _, _⟩ := slice_from hUB hi2 hz1 (some ⟨g, 0, none⟩) i i i (i : Int) rfl (Nat.le_refl _) (Nat.le_refl _)
    have own1 := hide (hN.row.alloc (.cells #[.string s, .slice none 0 0] 55))
    have hYt : insV Y i s = Y ++ [(s, [], .slice none 0 0)] := by
      have := hN.len
      unfold insV
      rw [List.take_of_length_le (by omega), List.drop_of_length_le (by omega), List.append_nil]
    have HY := hide hYt
    clear hYt hba hN
    go_enter Try.func110, Try.ntmps110
    go_wp2_with (
      (at_builtin
       refine wpList_append_rd _ rfl (.tmp 23) (.tmp 24) _ rfl base 55 i2 _ 2 40 hUB hi2 hz0 hz1 hz2 rfl (by omega) (.slice (some ⟨g, 0, none⟩) i i) i (wcells Y) rfl own1.out (w.heap.size + 1) (some ⟨w.heap.size, 0, none⟩) 1 _ [Value.string s, .slice none 0 0] rfl (rd_two _ _ _ _) (by intro u hu; simp at hu; rcases hu with rfl | rfl <;> rfl) (by unfold maxLen; omega) (by omega) (by simp; omega) ?_
       intro v9 w9 own9 gr9 at9
       have Hb9 : Hid (Below base w w9) := Below.own ((Hba.out).mono hb) gr9 own1.out (Nat.le_refl _) (by simp; omega)
       obtain ⟨A9, c9, e9, N9⟩ := NestB.snoc (nm := s) (L := []) (m := 0) HN.out (Below.refl _ _) (World.ownsRow_nil _ _ _ _) hb own9 gr9 at9
       subst e9
       have HN9 := hide N9
       clear gr9 at9 own9 N9))
    go_ret
    exact ⟨_, _, rfl, by rw [HY.out]; exact HN9.out, Hb9.out⟩
end Go.Proofs.Ytimpmlmkhjeajaa

/- BoxesPut of the program; with it the program's four functions of boxes stand. -/
set_option linter.unusedVariables false
set_option linter.unusedSimpArgs false
namespace Go.Proofs.Ytimpmlmkhjeajaa
open Go.RowKit Go.BigFrame

theorem pos_cons (a : ByteArray) (L : List ByteArray) (s : ByteArray) : pos (a :: L) s = if blt a s = true then pos L s + 1 else 0 := by
  unfold pos
  rw [List.takeWhile_cons]
  split <;> rfl
theorem insB_new {s : ByteArray} {id : Int} : ∀ {X : List Bx}, s ∉ bnms X → insB s id X = X.take (pos (bnms X) s) ++ [(s, [id])] ++ X.drop (pos (bnms X) s)
  | [], _ => by simp [insB]
  | b :: X, h => by
    have hb : b.1 ≠ s := fun e => h (by simp [bnms, e])
    have hX : s ∉ bnms X := fun e => h (by unfold bnms at *; simp [e])
    rw [show bnms (b :: X) = b.1 :: bnms X from rfl, pos_cons]
    unfold insB
    by_cases h1 : blt s b.1 = true
    · have h2 : blt b.1 s = false := blt_asymm h1
      rw [if_pos h1, h2]; simp
    · rw [if_neg h1, if_neg hb]
      have h2 : blt b.1 s = true := by
        cases h3 : blt b.1 s
        · exact absurd (blt_tri h3 (by simpa using h1)) hb
        · rfl
      rw [if_pos h2, insB_new hX]
      simp
theorem insB_old {s : ByteArray} {id : Int} {t : Bx} : ∀ {X : List Bx}, X[pos (bnms X) s]? = some t → t.1 = s → insB s id X = X.set (pos (bnms X) s) (s, bput t.2 id)
  | [], h, _ => by simp at h
  | b :: X, h, ht => by
    rw [show bnms (b :: X) = b.1 :: bnms X from rfl, pos_cons] at h ⊢
    unfold insB
    by_cases h2 : blt b.1 s = true
    · rw [if_pos h2] at h ⊢
      have h1 : ¬ blt s b.1 = true := by rw [blt_asymm h2]; simp
      rw [if_neg h1, if_neg (blt_ne h2), insB_old (by simpa using h) ht]
      rfl
    · rw [if_neg h2] at h ⊢
      have e : b = t := by simpa using h
      subst e
      rw [ht, blt_irrefl]
      simp
theorem pairwise_set {α : Type} {R : α → α → Prop} {L : List α} {k : Nat} {x : α} (h : L.Pairwise R) (h1 : ∀ y ∈ L, R y x) (h2 : ∀ y ∈ L, R x y) : (L.set k x).Pairwise R := by
  rw [List.pairwise_iff_getElem] at h ⊢
  intro i j hi hj hij
  simp only [List.length_set] at hi hj
  rw [List.getElem_set, List.getElem_set]
  split
  · split
    · omega
    · exact h2 _ (List.getElem_mem hj)
  · split
    · exact h1 _ (List.getElem_mem hi)
    · exact h i j hi hj hij
theorem nest_set {base B n c g k m : Nat} {Y : List BxV} {y : BxV} {L : List Int} {v : Value} {w : World} (h : NestB base w (some ⟨g, 0, none⟩) n c Y) (hy : Y[k]? = some y) (hv : w.ownsRow B 3 1 v m (L.map (Value.int .i64))) (hB : base ≤ B) (hlt : ∀ {b}, WBlk (.slice (some ⟨g, 0, none⟩) n c) Y b → b < B) :
    NestB base (w.setCell ⟨g, k * 2 + 1, none⟩ v) (some ⟨g, 0, none⟩) n c (Y.set k (y.1, L, v)) := by
  have hm : L.length = m := by have := hv.1; rw [List.length_map] at this; omega
  subst hm
  have s1 := h.row.stored (k * 2 + 1) v
  rw [wcells_set1 L v hy] at s1
  have gr : w.grownBy (w.setCell ⟨g, k * 2 + 1, none⟩ v) (some g) := ⟨rfl, rfl, rfl, by simp, fun j _ hj => heap_setCell_other _ ⟨g, k * 2 + 1, none⟩ j v (fun e => hj (by simp [e]))⟩
  have hgB : g < B := hlt (.inl rfl)
  have hvB : ∀ b, v.ownBlock = some b → B ≤ b := fun b hb => (hv.lt b hb).1
  have hYB : ∀ z ∈ Y, ∀ b, z.2.2.ownBlock = some b → b < B := fun z hz b hb => hlt (.inr ⟨z, hz, hb⟩)
  refine ⟨s1.1, fun z hz => ?_, fun z hz d hd => ?_, ?_⟩
  · rcases List.mem_or_eq_of_mem_set hz with h1 | rfl
    · exact (h.ids z h1).kept gr (.inr (fun e => h.far z h1 _ e rfl))
    · exact (own_base hv hB).kept gr (.inr (fun e => by have := hvB g e; omega))
  · rcases List.mem_or_eq_of_mem_set hz with h1 | rfl
    · exact h.far z h1 d hd
    · intro e; simp [Value.ownBlock] at e; subst e; have := hvB g hd; omega
  · exact pairwise_set h.two (fun z hz b hb e => by have := hYB z hz b hb; have := hvB b e; omega) (fun z hz b hb e => by have := hYB z hz b e; have := hvB b hb; omega)
theorem bxVset (Y : List BxV) (k : Nat) (y : BxV) : bxV (Y.set k y) = (bxV Y).set k (y.1, y.2.1) := by unfold bxV; rw [List.map_set]

set_option maxHeartbeats 4000000 in
set_option maxRecDepth 100000 in
theorem i_BoxesPut (A : Option Addr) (n c : Nat) (X : List Bx) (s : ByteArray) (id : Int) (w : World) (hX : Bxs w w.heap.size A n X) (hS : BSmall X) (hn : n ≤ maxLen) (hs : s.size ≤ maxLen) :
    Calls Try.prog 75 #[.slice A n c, .string s, .int .i64 id] w fun e w' => Own2B w (bsPutM X s id) e w' := by
  have hl := hide hX.1
  have HX := hide hX
  have HS := hide hS
  have HN := hide hn
  have Hs := hide hs
  clear hX hS hn hs
  go_enter Try.func75, Try.ntmps75
  go_wp2_with fail
  refine (i_Bs A n c X _ HX.out HS.out HN.out).mono ?_
  rintro e w1 ⟨rfl, hb1⟩
  have Hb1 := hide hb1
  have HX1 := hide (HX.out.on hb1)
  have hs1 := hb1.size
  clear hb1
  cases h1 : bxsB X
  · have H : Hid (bsPutM X s id = none) := bsPutM_1 h1
    clear h1
    go_wp2_with fail
    go_ret2
    exact ⟨_, by rw [H.out]; rfl, by rw [H.out]; exact OwnB.nil _ _, Hb1.out⟩
  have H1 := hide h1
  have hn10 : n ≤ 10 := by have h := bxsB_10 h1; have := hl.out; omega
  clear h1
  go_wp2_with fail
  refine (i_NameValid s _ Hs.out).mono ?_
  rintro e w' ⟨rfl, rfl⟩
  cases h2 : nvB s
  · have H : Hid (bsPutM X s id = none) := bsPutM_2 h2
    clear h2
    go_wp2_with fail
    go_ret2
    exact ⟨_, by rw [H.out]; rfl, by rw [H.out]; exact OwnB.nil _ _, Hb1.out⟩
  have H2 := hide h2
  clear h2
  go_wp2_with fail
  refine (copy_any A n c X w1 HX1.out hn10 (fun a ha => idsB_6 (bxsB_bx H1.out ha).2.1)).mono ?_
  rintro e w2 ⟨g, Y, rfl, hY, hN2, hb2⟩
  have HY := hide hY
  have HN2 := hide hN2
  have Hb2 := hide (Hb1.out.trans (hb2.mono hs1))
  have HX2 : Hid (Bxs w2 w2.heap.size (some ⟨g, 0, none⟩) n X) := by rw [← hY]; exact hN2.bxs
  have hs2 := hb2.size
  clear hY hN2 hb2
  go_wp2_with fail
  refine (bplace_any (some ⟨g, 0, none⟩) n n X s _ HX2.out (bxsB_asc H1.out) (by omega)).mono ?_
  rintro e w3 ⟨rfl, hb3⟩
  have HN3 := hide (HN2.out.below hb3)
  have w3size : w1.heap.size ≤ w3.heap.size := Nat.le_trans hs2 hb3.size
  have Hb3 := hide (Hb2.out.trans (hb3.mono (Nat.le_trans hs1 hs2)))
  have hgb := HN3.out.row.lt g rfl
  have hpl : pos (bnms X) s ≤ n := by have := pos_le (bnms X) s; rw [bnms_len] at this; have := hl.out; omega
  clear hb3
  have HYl := hide HN3.out.len
  cases hm : memB (bnms X) s
  · have hsm : s ∉ bnms X := fun h => by rw [memB_t h] at hm; cases hm
    have hins := insB_new (id := id) hsm
    obtain ⟨p, hp⟩ : ∃ p, pos (bnms X) s = p := ⟨_, rfl⟩
    rw [hp] at hins hpl ⊢
    have HZ : Hid (∀ v, bxV ((insV Y p s).set p (s, bput [] id, v)) = bsput X s id) := fun v => by
      have h1 : (X.take p).length = p := by rw [List.length_take]; have := hl.out; omega
      rw [bsput_eq (bxsB_asc H1.out), hins, bxVset, bput_nil]
      unfold insV
      rw [bxV_app, bxV_app]
      have e1 : bxV (Y.take p) = X.take p := by rw [← HY.out]; unfold bxV; rw [List.map_take]
      have e2 : bxV (Y.drop p) = X.drop p := by rw [← HY.out]; unfold bxV; rw [List.map_drop]
      rw [e1, e2, List.append_assoc, List.append_assoc, List.set_append_right _ _ (by omega), h1, Nat.sub_self]
      rfl
    have HPt : Hid ((insV Y p s)[p]? = some (s, [], .slice none 0 0)) := by
      have h1 : (Y.take p).length = p := by rw [List.length_take]; have := HYl.out; omega
      show _ = _
      unfold insV
      rw [List.append_assoc, List.getElem?_append_right (by omega), h1, Nat.sub_self]
      rfl
    clear hm hsm hins hp
    go_wp2_with fail
    refine (insert_any w1.heap.size g n p _ Y s w3 (by first | rfl | omega) HN3.out hpl (by omega) w3size).mono ?_
    rintro e w4 ⟨A4, c4, rfl, hN4, hb4⟩
    obtain ⟨g4, c4', hv4, hgb4, hgl4⟩ := hN4.row.form (Nat.succ_pos n)
    injection hv4 with e1 _ e2
    subst e1 e2
    have HN4 := hide hN4
    have w4size : w1.heap.size ≤ w4.heap.size := Nat.le_trans w3size (Nat.le_trans hb4.size (Nat.le_refl _))
    have Hb4 := hide (Hb3.out.trans (hb4.mono hs1))
    have c0 := (hN4.row.cellAt (p * 2 + 1) (by omega)).trans (wcells_at HPt.out).2
    have hpn : (p : Int) < (n : Int) + 1 := by omega
    have HL : Hid (Ints w4 w4.heap.size none 0 []) := ⟨rfl, fun h => absurd h (by omega)⟩
    have HI : Hid (idsB [] = true) := idsB_nil
    clear hN4 hb4
    go_wp2_with fail
    refine (i_BoxPut none 0 0 [] id _ HL.out (by unfold maxLen; omega)).mono ?_
    rintro e w5 ⟨v5, rfl, ⟨A5, n5, c5, rfl, own5⟩, hb5⟩
    have Hb5 := hide (Hb4.out.trans (hb5.mono Hb4.out.size))
    have hs5 := Hb5.out.size
    cases h3 : inR id
    · have H : Hid (bsPutM X s id = none) := bsPutM_3 h3
      have HB : Hid (bPutM [] id = none) := bPutM_2 h3
      rw [HB.out] at own5 ⊢
      clear h3 hb5 own5
      go_wp2_with fail
      go_ret2
      exact ⟨_, by rw [H.out]; rfl, by rw [H.out]; exact OwnB.nil _ _, Hb5.out⟩
    have H3 := hide h3
    have HB : Hid (bPutM [] id = some (bput [] id)) := bPutM_t HI.out h3
    rw [HB.out] at own5 ⊢
    have hN5 := HN4.out.below hb5
    have Own5 : Hid (w5.ownsRow w4.heap.size 3 1 (.slice A5 n5 c5) n5 ((bput [] id).map (Value.int .i64))) := own5
    have cst := (hN5.row.cellAt (p * 2 + 1) (by omega)).trans (wcells_at HPt.out).2
    have fst := hN5.row.frozenAt (p * 2 + 1)
    have HNs := hide (nest_set hN5 HPt.out Own5.out (by have := w4size; omega) (fun hb => (HN4.out.lt hb).2))
    have HE : Hid (bxV ((insV Y p s).set p (s, bput [] id, Value.slice A5 n5 c5)) = bsput X s id) := HZ.out _
    clear h3 hb5 own5 hN5
    go_wp2_with fail
    refine (i_Bs (some ⟨g4, 0, none⟩) (n + 1) c4 (bsput X s id) _ (by rw [← HE.out]; exact HNs.out.bxs) (bsput_small H1.out H2.out) (by unfold maxLen; omega)).mono ?_
    rintro e w6 ⟨rfl, hb6⟩
    have hbs := (Hb5.out.setCell (p := ⟨g4, p * 2 + 1, none⟩) (show w.heap.size ≤ g4 by omega) (Value.slice A5 n5 c5))
    have Hb6 := hide (hbs.trans (hb6.mono hbs.size))
    have HN6 := hide (HNs.out.below hb6)
    clear hb6 hbs
    cases h4 : bxsB (bsput X s id)
    · have H : Hid (bsPutM X s id = none) := bsPutM_4 h4
      clear h4
      go_wp2_with fail
      go_ret2
      exact ⟨_, by rw [H.out]; rfl, by rw [H.out]; exact OwnB.nil _ _, Hb6.out⟩
    · have H : Hid (bsPutM X s id = some (bsput X s id)) := bsPutM_t H1.out H2.out H3.out h4
      clear h4
      go_wp2_with fail
      go_ret2
      exact ⟨_, by rw [H.out]; rfl, by rw [H.out]; exact ⟨_, _, _, _, rfl, HE.out, HN6.out.down hs1⟩, Hb6.out⟩
  · have hat := (mem_pos (bxsB_asc H1.out)).1 (memB_iff.1 hm)
    obtain ⟨t, ht⟩ : ∃ t, X[pos (bnms X) s]? = some t := by
      have := (List.getElem?_eq_some_iff.1 hat).1
      rw [bnms_len] at this
      exact ⟨X[pos (bnms X) s], List.getElem?_eq_getElem _⟩
    have hts : t.1 = s := by have h := bnms_at ht; rw [hat] at h; injection h with h; exact h.symm
    have hins := insB_old (id := id) ht hts
    obtain ⟨p, hp⟩ : ∃ p, pos (bnms X) s = p := ⟨_, rfl⟩
    rw [hp] at hins ht ⊢
    have HZ : Hid (∀ v, bxV (Y.set p (s, bput t.2 id, v)) = bsput X s id) := fun v => by
      rw [bsput_eq (bxsB_asc H1.out), hins, bxVset, HY.out]
    have hpn' : p < n := by have := (List.getElem?_eq_some_iff.1 ht).1; have := hl.out; omega
    have hpn : (p : Int) < (n : Int) := by omega
    obtain ⟨u, hu⟩ : ∃ u, Y[p]? = some (t.1, t.2, u) := by rw [← HY.out] at ht; exact bxV_at ht
    rw [hts] at hu
    have hown := HN3.out.ids _ (List.mem_of_getElem? hu)
    obtain ⟨A', c', eu⟩ := own_slice hown
    have eu2 : u = .slice A' t.2.length c' := eu
    subst eu2
    have HPt := hide hu
    have HL : Hid (Ints w3 w3.heap.size A' t.2.length t.2) := Ints.of_own hown
    have HI : Hid (idsB t.2 = true) := (bxsB_bx H1.out (List.mem_of_getElem? ht)).2.1
    have h6 : t.2.length ≤ 6 := idsB_6 HI.out
    have c0 := (HN3.out.row.cellAt (p * 2 + 1) (by omega)).trans (wcells_at hu).2
    clear hm hat ht hts hins hp hu hown eu
    obtain ⟨m, hm⟩ : ∃ m, t.2.length = m := ⟨_, rfl⟩
    rw [hm] at c0 h6 HPt HL
    clear hm
    go_wp2_with fail
    refine (i_BoxPut A' m c' t.2 id _ HL.out (by unfold maxLen; omega)).mono ?_
    rintro e w5 ⟨v5, rfl, ⟨A5, n5, c5, rfl, own5⟩, hb5⟩
    have Hb5 := hide (Hb3.out.trans (hb5.mono Hb3.out.size))
    have hs5 := Hb5.out.size
    cases h3 : inR id
    · have H : Hid (bsPutM X s id = none) := bsPutM_3 h3
      have HB : Hid (bPutM t.2 id = none) := bPutM_2 h3
      rw [HB.out] at own5 ⊢
      clear h3 hb5 own5
      go_wp2_with fail
      go_ret2
      exact ⟨_, by rw [H.out]; rfl, by rw [H.out]; exact OwnB.nil _ _, Hb5.out⟩
    have H3 := hide h3
    have HB : Hid (bPutM t.2 id = some (bput t.2 id)) := bPutM_t HI.out h3
    rw [HB.out] at own5 ⊢
    have hN5 := HN3.out.below hb5
    have Own5 : Hid (w5.ownsRow w3.heap.size 3 1 (.slice A5 n5 c5) n5 ((bput t.2 id).map (Value.int .i64))) := own5
    have cst := (hN5.row.cellAt (p * 2 + 1) (by omega)).trans (wcells_at HPt.out).2
    have fst := hN5.row.frozenAt (p * 2 + 1)
    have HNs := hide (nest_set hN5 HPt.out Own5.out (by have := w3size; omega) (fun hb => (HN3.out.lt hb).2))
    have HE : Hid (bxV (Y.set p (s, bput t.2 id, Value.slice A5 n5 c5)) = bsput X s id) := HZ.out _
    clear h3 hb5 own5 hN5
    go_wp2_with fail
    refine (i_Bs (some ⟨g, 0, none⟩) (n) n (bsput X s id) _ (by rw [← HE.out]; exact HNs.out.bxs) (bsput_small H1.out H2.out) (by unfold maxLen; omega)).mono ?_
    rintro e w6 ⟨rfl, hb6⟩
    have hbs := (Hb5.out.setCell (p := ⟨g, p * 2 + 1, none⟩) (show w.heap.size ≤ g by omega) (Value.slice A5 n5 c5))
    have Hb6 := hide (hbs.trans (hb6.mono hbs.size))
    have HN6 := hide (HNs.out.below hb6)
    clear hb6 hbs
    cases h4 : bxsB (bsput X s id)
    · have H : Hid (bsPutM X s id = none) := bsPutM_4 h4
      clear h4
      go_wp2_with fail
      go_ret2
      exact ⟨_, by rw [H.out]; rfl, by rw [H.out]; exact OwnB.nil _ _, Hb6.out⟩
    · have H : Hid (bsPutM X s id = some (bsput X s id)) := bsPutM_t H1.out H2.out H3.out h4
      clear h4
      go_wp2_with fail
      go_ret2
      exact ⟨_, by rw [H.out]; rfl, by rw [H.out]; exact ⟨_, _, _, _, rfl, HE.out, HN6.out.down hs1⟩, Hb6.out⟩
end Go.Proofs.Ytimpmlmkhjeajaa
