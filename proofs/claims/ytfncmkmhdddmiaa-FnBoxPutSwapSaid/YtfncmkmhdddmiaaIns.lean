/- slices.Insert of one box, where there is no room. -/
import Derived.Test.YtfncmkmhdddmiaaBcp
import Derived.Lib.AppendZerosOnto
import Derived.Laws.CopyOwn
import Derived.Shelf.Spec.SlicesInsert
set_option linter.unusedVariables false
set_option linter.unusedSimpArgs false
namespace Go.Proofs.Ytfncmkmhdddmiaa
open Go.RowKit Go.BigFrame

section
variable {P : Program}
/-- 'x[k:]' ahead of the capacity. -/
theorem slice_from_run {t e : TypeId} {i : TypeInfo} {size : Nat} (ht : P.underlying t = some (.slice e)) (hi : P.info? e = some i) (hsz : i.size = size) (g n c k : Nat) (z : Int) (hz : z = (k : Int)) (hk : k ≤ n) (hkc : k < c) (hnc : n ≤ c) (W : World) :
    (Instr.slice t (.slice (some ⟨g, 0, none⟩) n c) (some (.int .i64 z)) none none).run P W = .ok (.slice (some ⟨g, k * size, none⟩) (n - k) (c - k)) W := by
  subst hz hsz
  have h1 := run_slice_l (P := P) W t (some ⟨g, 0, none⟩) n c (by rw [ht, elem_of_underlying ht]) .i64 (k : Int) (by omega) (by omega)
  rw [h1, elem_of_underlying ht, size_run hi]
  simp only [Result.andThen, sliced, Int.toNat_natCast]
  rw [if_neg (by omega), Option.map_some, add_at, Nat.zero_add]
/-- copy of elements of whatever size into a row. -/
theorem copy_row_run (w : World) (dT sT ty elem : TypeId) (size n g o dLen dCap : Nat) (a : Addr) (sLen sCap : Nat) (cur : Array Value) (t : TypeId) (cs : List Value)
    (hu : P.underlying dT = some (.slice elem)) (hs : (P.info? elem).map (·.size) = some size)
    (hg : w.heap[g]? = some (.cells cur t (0, 0))) (hn : n = Nat.min sLen dLen) (hcs : cs.length = n * size)
    (hsrc : ∀ j v, cs[j]? = some v → w.cell? (a.add j) = some v) (hfit : o + cs.length ≤ cur.size) (h1 : ∀ v ∈ cs, v.oneCell' = true) :
    (Builtin.copy_ #[dT, sT] ty #[.slice (some ⟨g, o, none⟩) dLen dCap, .slice (some a) sLen sCap]).run P w =
      .ok (goInt n) (w.setRow g (cur.toList.take o ++ cs ++ cur.toList.drop (o + cs.length)).toArray) := by
  have hst := run_storeCells_at P g o t cs 0 cur w hg (by simpa using hfit) h1
  have hf := run_firstCells_some (P := P) w size n a sLen sCap cs hcs hsrc
  cases hq : P.info? elem with
  | none => simp [hq] at hs
  | some i =>
    have hi : i.size = size := by simpa [hq] using hs
    simp [Builtin.copy_, run_underlying hu, Builtin.lenOf, sizeOf, typeInfo, hq, hi, ← hn, hf, hst]
end

/-- The row that Insert lays: runs of its three steps. -/
structure InsRun (P : Program) (T TI e : TypeId) (w : World) (g vb n i : Nat) (cs : List Value) (x y : Value) where
  G : Nat
  w2 : World
  w3 : World
  w4 : World
  r2 : ∀ ty, (Builtin.append_ #[T, TI] ty #[.slice (some ⟨g, 0, none⟩) i n, .int .i64 ((n : Int) + 1 - (i : Int))]).run P w = .ok (.slice (some ⟨w.heap.size, 0, none⟩) (n + 1) G) w2
  r3 : ∀ ty, (Builtin.copy_ #[T, T] ty #[.slice (some ⟨w.heap.size, i * 2, none⟩) (n + 1 - i) (G - i), .slice (some ⟨vb, 0, none⟩) 1 1]).run P w2 = .ok (goInt 1) w3
  r4 : ∀ ty, (Builtin.copy_ #[T, T] ty #[.slice (some ⟨w.heap.size, (i + 1) * 2, none⟩) (n + 1 - (i + 1)) (G - (i + 1)), .slice (some ⟨g, i * 2, none⟩) (n - i) (n - i)]).run P w3.drew = .ok (goInt ((n - i : Nat) : Int)) w4
  hG : n + 1 ≤ G
  hG2 : G ≤ maxLen
  own : w4.ownsRow w.heap.size e 2 (.slice (some ⟨w.heap.size, 0, none⟩) (n + 1) G) (n + 1) (cs.take (i * 2) ++ [x, y] ++ cs.drop (i * 2))
  below : Below w.heap.size w w4
  old : ∀ k, k < w.heap.size → w2.heap[k]? = w.heap[k]?

theorem ins_run {P : Program} {T TI e : TypeId} {inf : TypeInfo} {z : Value} (w : World) (g vb n i : Nat) (cs : List Value) (x y : Value) (hT : P.underlying T = some (.slice e)) (hTI : P.underlying TI = some (.int .i64)) (hi : P.info? e = some inf) (hz : inf.zero = some z) (hsz : inf.size = 2) (hby : inf.bytes = 40) (hzs : z.cells.size = 2)
    (hin : i < n) (hn : n ≤ 1000) (hcl : cs.length = n * 2) (hg : g < w.heap.size) (hcs : ∀ j v, cs[j]? = some v → w.cell? ⟨g, j, none⟩ = some v) (h1 : ∀ v ∈ cs, v.oneCell' = true)
    (hvb : vb < w.heap.size) (hx : w.cell? ⟨vb, 0, none⟩ = some x) (hy : w.cell? ⟨vb, 1, none⟩ = some y) (hx1 : x.oneCell' = true) (hy1 : y.oneCell' = true) : Nonempty (InsRun P T TI e w g vb n i cs x y) := by
  have hik : i + (n + 1 - i) = n + 1 := by omega
  have hold : (Builtin.firstCells inf.size i (.slice (some ⟨g, 0, none⟩) i n)).run P w.drew = .ok (cs.take (i * 2)).toArray w.drew := by
    rw [hsz]
    exact run_firstCells_some w.drew 2 i ⟨g, 0, none⟩ i n (cs.take (i * 2)) (by rw [List.length_take]; omega) (fun j v hj => by
      rw [add_at, Nat.zero_add]
      rw [List.getElem?_take] at hj
      split at hj
      · exact hcs j v hj
      · cases hj)
  obtain ⟨G, hGe⟩ : ∃ G, G = grownCap w (n + 1) n e := ⟨_, rfl⟩
  have hGn : n + 1 ≤ G := by rw [hGe]; exact grownCap_ge w _ _ _
  have hGm : G ≤ maxLen := by rw [hGe]; exact grownCap_le_maxLen w _ _ _ (by unfold maxLen; omega)
  obtain ⟨ROW, hROW⟩ : ∃ ROW : Array Value, ROW = (cs.take (i * 2)).toArray ++ Builtin.zeroCells z.cells (n + 1 - i) ++ Builtin.zeroCells z.cells (G - (n + 1)) := ⟨_, rfl⟩
  have hR : ROW.size = G * 2 := by
    rw [hROW]
    simp only [Array.size_append, List.size_toArray, size_zeroCells, hzs, List.length_take, hcl]
    omega
  have hRt : ROW.toList.take (i * 2) = cs.take (i * 2) := by
    rw [hROW]
    simp only [Array.toList_append, List.append_assoc]
    rw [List.take_append_of_le_length (by rw [List.length_take, hcl]; omega), List.take_take, Nat.min_self]
  have r2 : ∀ ty, (Builtin.append_ #[T, TI] ty #[.slice (some ⟨g, 0, none⟩) i n, .int .i64 ((n : Int) + 1 - (i : Int))]).run P w = .ok (.slice (some ⟨w.heap.size, 0, none⟩) (n + 1) G) (w.drew.alloc (.cells ROW e)) := fun ty => by
    have h := Lib.run_append_grow_zeros w T TI ty e inf z .i64 .i64 hT hTI hi hz (some ⟨g, 0, none⟩) i n (cs.take (i * 2)) hold (n + 1 - i) (by omega) (by omega) (by omega) (by omega) (by rw [hby]; omega) (by rw [hby, hik]; exact growslice_fits (by omega) (by omega))
    rw [hik, ← hGe, ← hROW] at h
    rw [show (n : Int) + 1 - (i : Int) = ((n + 1 - i : Nat) : Int) by omega]
    exact h
  have hsize : (P.info? e).map (·.size) = some 2 := by rw [hi]; simp [hsz]
  obtain ⟨w2, hw2⟩ : ∃ w2, w2 = w.drew.alloc (.cells ROW e) := ⟨_, rfl⟩
  rw [← hw2] at r2
  have hN2 : w2.heap[w.heap.size]? = some (.cells ROW e (0, 0)) := by rw [hw2]; exact heap_alloc_new w.drew _
  have hb2 : Below w.heap.size w w2 := by rw [hw2]; exact ((Below.refl _ _).drew).alloc (Nat.le_refl _) _
  have hold2 : ∀ k, k < w.heap.size → w2.heap[k]? = w.heap[k]? := fun k hk => hb2.block k hk
  have c2 : ∀ (b o : Nat) (v : Value), b < w.heap.size → w.cell? ⟨b, o, none⟩ = some v → w2.cell? ⟨b, o, none⟩ = some v := fun b o v hb h => (hb2.cell (p := ⟨b, o, none⟩) hb).trans h
  have r3 : ∀ ty, (Builtin.copy_ #[T, T] ty #[.slice (some ⟨w.heap.size, i * 2, none⟩) (n + 1 - i) (G - i), .slice (some ⟨vb, 0, none⟩) 1 1]).run P w2 = .ok (goInt 1) (w2.setRow w.heap.size (ROW.toList.take (i * 2) ++ [x, y] ++ ROW.toList.drop (i * 2 + 2)).toArray) := fun ty =>
    copy_row_run w2 T T ty e 2 1 w.heap.size (i * 2) (n + 1 - i) (G - i) ⟨vb, 0, none⟩ 1 1 ROW e [x, y] hT hsize hN2 (by simp only [Nat.min_def]; split <;> omega) rfl
      (fun j v hj => by
        rw [add_at, Nat.zero_add]
        rcases j with _ | _ | j
        · simp at hj; subst hj; exact c2 _ _ _ hvb hx
        · simp at hj; subst hj; exact c2 _ _ _ hvb hy
        · simp at hj) (by simp; omega) (by intro v hv; simp at hv; rcases hv with rfl | rfl; exact hx1; exact hy1)
  obtain ⟨R3, hR3⟩ : ∃ R3 : List Value, R3 = ROW.toList.take (i * 2) ++ [x, y] ++ ROW.toList.drop (i * 2 + 2) := ⟨_, rfl⟩
  rw [← hR3] at r3
  have hR3l : R3.length = G * 2 := by
    rw [hR3]
    simp only [List.length_append, List.length_take, List.length_drop, Array.length_toList, hR, List.length_cons, List.length_nil]
    omega
  have hR3t : R3.take ((i + 1) * 2) = cs.take (i * 2) ++ [x, y] := by
    rw [hR3, hRt, List.take_append_of_le_length (by simp [hcl]; omega), List.take_of_length_le (by simp [hcl]; omega)]
  obtain ⟨w3, hw3⟩ : ∃ w3, w3 = w2.setRow w.heap.size R3.toArray := ⟨_, rfl⟩
  rw [← hw3] at r3
  have hN3 : w3.heap[w.heap.size]? = some (.cells R3.toArray e (0, 0)) := by rw [hw3]; exact setRow_heap w2 w.heap.size ROW _ e _ hN2
  have hb3 : Below w.heap.size w w3 := by rw [hw3]; exact below_setRow hb2 (Nat.le_refl _) _
  have hdl : (cs.drop (i * 2)).length = (n - i) * 2 := by rw [List.length_drop, hcl]; omega
  have r4 : ∀ ty, (Builtin.copy_ #[T, T] ty #[.slice (some ⟨w.heap.size, (i + 1) * 2, none⟩) (n + 1 - (i + 1)) (G - (i + 1)), .slice (some ⟨g, i * 2, none⟩) (n - i) (n - i)]).run P w3.drew = .ok (goInt (n - i : Nat)) (w3.drew.setRow w.heap.size (R3.toArray.toList.take ((i + 1) * 2) ++ cs.drop (i * 2) ++ R3.toArray.toList.drop ((i + 1) * 2 + (cs.drop (i * 2)).length)).toArray) := fun ty =>
    copy_row_run w3.drew T T ty e 2 (n - i) w.heap.size ((i + 1) * 2) (n + 1 - (i + 1)) (G - (i + 1)) ⟨g, i * 2, none⟩ (n - i) (n - i) R3.toArray e (cs.drop (i * 2)) hT hsize hN3 (by simp only [Nat.min_def]; split <;> omega) hdl
      (fun j v hj => by
        rw [add_at]
        rw [List.getElem?_drop] at hj
        exact (hb3.cell (p := ⟨g, i * 2 + j, none⟩) hg).trans (hcs _ v hj)) (by rw [hdl]; simp [hR3l]; omega) (fun v hv => h1 v (List.mem_of_mem_drop hv))
  obtain ⟨R4, hR4⟩ : ∃ R4 : List Value, R4 = R3.toArray.toList.take ((i + 1) * 2) ++ cs.drop (i * 2) ++ R3.toArray.toList.drop ((i + 1) * 2 + (cs.drop (i * 2)).length) := ⟨_, rfl⟩
  rw [← hR4] at r4
  have hlen : (cs.take (i * 2) ++ [x, y] ++ cs.drop (i * 2)).length = (n + 1) * 2 := by
    simp only [List.length_append, List.length_take, List.length_drop, List.length_cons, List.length_nil, hcl]; omega
  refine ⟨⟨G, w2, w3, w3.drew.setRow w.heap.size R4.toArray, r2, r3, r4, hGn, hGm, ⟨hlen, .inr ⟨w.heap.size, G, R4.toArray, rfl, Nat.le_refl _, setRow_heap w3.drew w.heap.size R3.toArray _ e _ hN3, hGn, hGm, ?_, ?_⟩⟩, below_setRow hb3.drew (Nat.le_refl _) _, hold2⟩⟩
  · rw [hR4]
    simp only [List.toList_toArray, List.size_toArray, List.length_append, List.length_take, List.length_drop, hcl, hR3l]
    omega
  · rw [List.toList_toArray, hR4, List.toList_toArray, hR3t, ← hlen]
    exact List.take_left
end Go.Proofs.Ytfncmkmhdddmiaa
