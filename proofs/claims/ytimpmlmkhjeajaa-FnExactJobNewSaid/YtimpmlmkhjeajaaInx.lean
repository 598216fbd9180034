/- Job.next of the program, an iterator over the next names; slices.Collect of it. -/
import Derived.RangeFuncNested
import Derived.RangeFuncBound
import Derived.RangeFuncCalls
import Derived.RangeFuncLeaves
import Derived.RangeFuncBox
import Derived.Shelf.Abstract
import Derived.Shelf.RegionOpen
import Derived.WalkKit
import Derived.OwnWalkIn
import Derived.TacticsInMore
import Derived.LoopNIn
import Derived.LoopIn
import Derived.Maps.AppendAt
import Derived.WalkLawsBesides
import Derived.Test.YtimpmlmkhjeajaaJn
set_option linter.unusedVariables false
set_option linter.unusedSimpArgs false
namespace Go.Proofs.Ytimpmlmkhjeajaa
open Go.RowKit Go.Shelf
attribute [local go_sem] Oper.semAt_some

/-- The blocks of which Q speaks are as they were. -/
def KpJ (Q : Nat → Prop) (W W' : World) : Prop := ∀ b, Q b → W'.heap[b]? = W.heap[b]?
theorem kpJ_t {Q : Nat → Prop} {A B C : World} (h : KpJ Q A B) (k : KpJ Q B C) : KpJ Q A C := fun b hb => (k b hb).trans (h b hb)
theorem kpJ_b {Q : Nat → Prop} {w : World} (hQ : ∀ b, Q b → b < w.heap.size) (W : World) (l : Nat) (o o' : Obj) (hl : w.heap.size ≤ l) (_ : W.heap[l]? = some o) (_ : o.isCells = false) (_ : o.isWalk = false) : KpJ Q W (W.putObj l o') :=
  fun b hb => World.putObj_heap_other (by have := hQ b hb; omega)
theorem kpJ_below {Q : Nat → Prop} {B : Nat} {W W' : World} (hQ : ∀ b, Q b → b < B) (h : Below B W W') : KpJ Q W W' := fun b hb => h.block b (hQ b hb)
theorem KpJ.cell {Q : Nat → Prop} {W W' : World} (h : KpJ Q W W') {p : Addr} (hp : Q p.block) : W'.cell? p = W.cell? p := World.cell?_of_block (h _ hp)

set_option maxHeartbeats 1000000 in
theorem i_nextJ (i d many : Int) (A : Option Addr) (n c : Nat) (w : World) :
    Calls Try.prog 71 #[.agg #[.int .i64 i, .slice A n c, .int .i64 d], .int .i64 many] w fun e w' => e = .returned (.func (.func 107) #[] #[.pointer (some ⟨w.heap.size + 1, 0, none⟩), .pointer (some ⟨w.heap.size, 0, none⟩)]) ∧
      w' = (w.alloc (.cells #[.int .i64 i, .slice A n c, .int .i64 d] 28)).alloc (.cells #[.int .i64 many] 3) := by
  go_enter Try.func71, Try.ntmps71
  go_wp2
  go_ret
  exact ⟨rfl, rfl⟩

/-- What the iterator reads. -/
structure NxAt {α : Type} (nm : α → ByteArray) (Bm Bj : Nat) (many : Int) (d : Nat) (g off n c : Nat) (N : List α) (W : World) : Prop where
  many : W.cell? ⟨Bm, 0, none⟩ = some (.int .i64 many)
  to : W.cell? ⟨Bj, 1, none⟩ = some (.slice (some ⟨g, off, none⟩) n c)
  done : W.cell? ⟨Bj, 2, none⟩ = some (.int .i64 (d : Int))
  at' : ∀ k s, N[k]? = some s → W.cell? ⟨g, off + (d + k), none⟩ = some (.string (nm s))

set_option maxRecDepth 100000 in
set_option maxHeartbeats 2000000 in
/-- The iterator's body, where there are names. -/
theorem nx_body {α : Type} (nm : α → ByteArray) (m : Nat) (hm : 1 ≤ m) (l Bm Bj : Nat) (Q : Nat → Prop) (many : Int) (d g off n c : Nat) (N : List α) (J Jx : List α → World → Prop)
    (hY : ∀ pre x W, J pre W → pre.length < N.length → YieldAt Fence.wide (m - 1) Try.prog l #[.string (nm x)] W fun e W' => (e = .returned (.bool true) ∧ J (pre ++ [x]) W' ∧ KpJ Q W W') ∨ (e = .returned (.bool false) ∧ Jx (pre ++ [x]) W'))
    (W : World) (hQj : Q Bj) (hQg : Q g) (hdn : d ≤ n) (hn : n ≤ 10) (h0 : 0 ≤ many) (hN : (N.length : Int) = many ∧ many ≤ (n : Int) - d ∨ (N.length : Int) = (n : Int) - d ∧ (n : Int) - d < many) (hR : NxAt nm Bm Bj many d g off n c N W) (hJ : J [] W) :
    CallsIn Fence.wide m Try.prog 107 #[.func (.yield l) #[] #[], .pointer (some ⟨Bm, 0, none⟩), .pointer (some ⟨Bj, 0, none⟩)] W fun e W' => (∃ v, e = .returned v) ∧
      ((∃ ys, ys = N ∧ J ys W') ∨ (∃ pre, pre <+: N ∧ Jx pre W')) := by
  obtain ⟨r1, r2, r3, r4⟩ := hR
  obtain ⟨q, hq⟩ : ∃ q, N.length = q := ⟨_, rfl⟩
  have HQ := hide hq
  rw [hq] at hN
  have HR4 := hide r4
  have HJ := hide hJ
  have HY := hide hY
  have hq10 : q ≤ 10 := by omega
  have hqn : d + q ≤ n := by omega
  clear hq r4 hJ hY
  refine callsIn_of_wp Try.func107 rfl trivial ?_ rfl
  simp only [Try.ntmps107, List.size_toArray, List.length_cons, List.length_nil, Nat.reduceAdd, Nat.reduceSub, Array.replicate_succ, Array.replicate_zero, List.push_toArray, List.append_toArray, List.nil_append, List.cons_append]
  rcases hN with ⟨h1, h2⟩ | ⟨h1, h2⟩
  · subst h1
    gi_wp2
    gi_loopw [4, 13] (fun _ r wr => ∃ k : Nat, k ≤ q ∧ r = .int .i64 k ∧ Hid (J (N.take k) wr) ∧ Hid (KpJ Q W wr)) (fun _ r _ => q - (intOf r).toNat)
    case atStart => exact ⟨0, Nat.zero_le _, rfl, HJ, hide (fun _ _ => rfl)⟩
    case round =>
      obtain ⟨k, hk, rfl, hJs, hks⟩ := hrel
      have s2 : wr.cell? ⟨Bj, 1, none⟩ = some (.slice (some ⟨g, off, none⟩) n c) := (hks.out.cell hQj).trans r2
      have s3 : wr.cell? ⟨Bj, 2, none⟩ = some (.int .i64 (d : Int)) := (hks.out.cell hQj).trans r3
      by_cases hlt : k < q
      · obtain ⟨s, hs⟩ : ∃ s, N[k]? = some s := ⟨N[k]'(by have := HQ.out; omega), List.getElem?_eq_getElem _⟩
        have s4 : wr.cell? ⟨g, off + (d + k), none⟩ = some (.string (nm s)) := (hks.out.cell (p := ⟨g, off + (d + k), none⟩) hQg).trans (HR4.out k s hs)
        have htk : Hid (N.take (k + 1) = N.take k ++ [s]) := by
          obtain ⟨h, e⟩ := List.getElem?_eq_some_iff.1 hs
          show _ = _
          rw [List.take_succ_eq_append_getElem h, e]
        obtain ⟨fn, tmps, assign, body, hy, hR⟩ := HY.out _ s wr hJs.out (by have := HQ.out; rw [List.length_take]; omega)
        have hdk : (d : Int) + (k : Int) < (n : Int) := by omega
        clear hs
        gi_wp2
        refine hR.mono ?_
        rintro e W3 (⟨rfl, hJ3, hk3⟩ | ⟨rfl, hJx3⟩)
        · have HJ3 := hide hJ3
          have HK3 := hide (kpJ_t hks.out hk3)
          clear hJ3 hk3
          gi_wp2
          go_roundw
          case rel => exact ⟨k + 1, by omega, by go_num, by rw [htk.out]; exact HJ3, HK3⟩
          case measure => simp [intOf]; omega
        · have HJx3 := hide hJx3
          clear hJx3
          gi_wp2
          refine bodyPost_ret (results_none rfl _ _ _) rfl ?_
          exact ⟨⟨_, rfl⟩, .inr ⟨N.take k ++ [s], by rw [← htk.out]; exact List.take_prefix _ _, HJx3.out⟩⟩
      · obtain rfl : k = q := by omega
        gi_wp2
        go_end0
        exact ⟨⟨_, rfl⟩, .inl ⟨_, List.take_of_length_le (by have := HQ.out; omega), hJs.out⟩⟩
  · have H1 := hide h1
    clear h1
    gi_wp2
    rw [← H1.out]
    clear h2
    gi_loopw [4, 13] (fun _ r wr => ∃ k : Nat, k ≤ q ∧ r = .int .i64 k ∧ Hid (J (N.take k) wr) ∧ Hid (KpJ Q W wr)) (fun _ r _ => q - (intOf r).toNat)
    case atStart => exact ⟨0, Nat.zero_le _, rfl, HJ, hide (fun _ _ => rfl)⟩
    case round =>
      obtain ⟨k, hk, rfl, hJs, hks⟩ := hrel
      have s2 : wr.cell? ⟨Bj, 1, none⟩ = some (.slice (some ⟨g, off, none⟩) n c) := (hks.out.cell hQj).trans r2
      have s3 : wr.cell? ⟨Bj, 2, none⟩ = some (.int .i64 (d : Int)) := (hks.out.cell hQj).trans r3
      by_cases hlt : k < q
      · obtain ⟨s, hs⟩ : ∃ s, N[k]? = some s := ⟨N[k]'(by have := HQ.out; omega), List.getElem?_eq_getElem _⟩
        have s4 : wr.cell? ⟨g, off + (d + k), none⟩ = some (.string (nm s)) := (hks.out.cell (p := ⟨g, off + (d + k), none⟩) hQg).trans (HR4.out k s hs)
        have htk : Hid (N.take (k + 1) = N.take k ++ [s]) := by
          obtain ⟨h, e⟩ := List.getElem?_eq_some_iff.1 hs
          show _ = _
          rw [List.take_succ_eq_append_getElem h, e]
        obtain ⟨fn, tmps, assign, body, hy, hR⟩ := HY.out _ s wr hJs.out (by have := HQ.out; rw [List.length_take]; omega)
        have hdk : (d : Int) + (k : Int) < (n : Int) := by omega
        clear hs
        gi_wp2
        refine hR.mono ?_
        rintro e W3 (⟨rfl, hJ3, hk3⟩ | ⟨rfl, hJx3⟩)
        · have HJ3 := hide hJ3
          have HK3 := hide (kpJ_t hks.out hk3)
          clear hJ3 hk3
          gi_wp2
          go_roundw
          case rel => exact ⟨k + 1, by omega, by go_num, by rw [htk.out]; exact HJ3, HK3⟩
          case measure => simp [intOf]; omega
        · have HJx3 := hide hJx3
          clear hJx3
          gi_wp2
          refine bodyPost_ret (results_none rfl _ _ _) rfl ?_
          exact ⟨⟨_, rfl⟩, .inr ⟨N.take k ++ [s], by rw [← htk.out]; exact List.take_prefix _ _, HJx3.out⟩⟩
      · obtain rfl : k = q := by omega
        gi_wp2
        go_end0
        exact ⟨⟨_, rfl⟩, .inl ⟨_, List.take_of_length_le (by have := HQ.out; omega), hJs.out⟩⟩

set_option maxRecDepth 100000 in
set_option maxHeartbeats 2000000 in
/-- .. where there are none. -/
theorem nx_none (m : Nat) (l Bm Bj : Nat) (many : Int) (d n c : Nat) (A : Option Addr) {α : Type} (J : List α → World → Prop) (W : World) (hdn : d ≤ n) (hn : n ≤ 10) (h0 : 0 ≤ many) (hN : many = 0 ∨ d = n)
    (r1 : W.cell? ⟨Bm, 0, none⟩ = some (.int .i64 many)) (r2 : W.cell? ⟨Bj, 1, none⟩ = some (.slice A n c)) (r3 : W.cell? ⟨Bj, 2, none⟩ = some (.int .i64 (d : Int))) (hJ : J [] W) :
    CallsIn Fence.wide m Try.prog 107 #[.func (.yield l) #[] #[], .pointer (some ⟨Bm, 0, none⟩), .pointer (some ⟨Bj, 0, none⟩)] W fun e W' => (∃ v, e = .returned v) ∧ J [] W' := by
  have HJ := hide hJ
  clear hJ
  refine callsIn_of_wp Try.func107 rfl trivial ?_ rfl
  simp only [Try.ntmps107, List.size_toArray, List.length_cons, List.length_nil, Nat.reduceAdd, Nat.reduceSub, Array.replicate_succ, Array.replicate_zero, List.push_toArray, List.append_toArray, List.nil_append, List.cons_append]
  by_cases hz : many ≤ (n : Int) - (d : Int)
  · obtain rfl : many = 0 := by omega
    clear hN h0
    gi_wp2
    gi_loopw [4, 13] (fun _ r wr => r = .int .i64 0 ∧ Hid (J [] wr)) (fun _ _ _ => 0)
    case atStart => exact ⟨rfl, HJ⟩
    case round =>
      obtain ⟨rfl, hJs⟩ := hrel
      gi_wp2
      go_end0
      exact ⟨⟨_, rfl⟩, hJs.out⟩
  · obtain rfl : d = n := by omega
    have hz2 : (d : Int) - (d : Int) < many := by omega
    clear hN h0 hz
    gi_wp2
    gi_loopw [4, 13] (fun _ r wr => r = .int .i64 0 ∧ Hid (J [] wr)) (fun _ _ _ => 0)
    case atStart => exact ⟨rfl, HJ⟩
    case round =>
      obtain ⟨rfl, hJs⟩ := hrel
      gi_wp2
      go_end0
      exact ⟨⟨_, rfl⟩, hJs.out⟩

theorem jNms_at {i many : Int} {L : List ByteArray} {d : Nat} {k : Nat} {s : ByteArray} (h : (jNms (i, L, (d : Int)) many)[k]? = some s) : L[d + k]? = some s := by
  unfold jNms at h
  rw [List.getElem?_drop, List.getElem?_take] at h
  split at h
  · simpa using h
  · cases h
theorem jNms_ways {i many : Int} {L : List ByteArray} {d n : Nat} (hl : L.length = n) (hv : jbB (i, L, (d : Int)) = true) (h0 : 0 ≤ many) :
    ((jNms (i, L, (d : Int)) many).length : Int) = many ∧ many ≤ (n : Int) - d ∨ ((jNms (i, L, (d : Int)) many).length : Int) = (n : Int) - d ∧ (n : Int) - d < many := by
  have h := jNms_len hv many
  have h2 := jb_done hv
  have h3 : jEnd (i, L, (d : Int)) many = min L.length (d + many.toNat) := by unfold jEnd; simp
  simp only at h h2
  omega

/-- The iterator's contract. -/
theorem nx_stops {α : Type} (nm : α → ByteArray) (N : List α) (m : Nat) (hm : 1 ≤ m) (Bm Bj B : Nat) (Q : Nat → Prop) (i many : Int) (d n c : Nat) (A : Option Addr) (L : List ByteArray) (hN : N.map nm = jNms (i, L, (d : Int)) many) (w0 : World) (hL : Strs w0 B A n L) (hv : jbB (i, L, (d : Int)) = true) (h0 : 0 ≤ many)
    (r1 : w0.cell? ⟨Bm, 0, none⟩ = some (.int .i64 many)) (r2 : w0.cell? ⟨Bj, 1, none⟩ = some (.slice A n c)) (r3 : w0.cell? ⟨Bj, 2, none⟩ = some (.int .i64 (d : Int)))
    (hQj : Q Bj) (hQ : ∀ g, g < B → Q g) (hm0 : Bm < w0.heap.size) (hj0 : Bj < w0.heap.size) (hB : B ≤ w0.heap.size) :
    SeqStopsK Fence.wide m Try.prog 107 #[.pointer (some ⟨Bm, 0, none⟩), .pointer (some ⟨Bj, 0, none⟩)] (fun s : α => #[Value.string (nm s)]) (KpJ Q) (fun ys => ys = N) (fun pre => pre <+: N) N.length w0 := fun l J Jx W hW _ _ hY hJ => by
  have q1 : W.cell? ⟨Bm, 0, none⟩ = some (.int .i64 many) := (hW.cell (p := ⟨Bm, 0, none⟩) hm0).trans r1
  have q2 : W.cell? ⟨Bj, 1, none⟩ = some (.slice A n c) := (hW.cell (p := ⟨Bj, 1, none⟩) hj0).trans r2
  have q3 : W.cell? ⟨Bj, 2, none⟩ = some (.int .i64 (d : Int)) := (hW.cell (p := ⟨Bj, 2, none⟩) hj0).trans r3
  have hl := hL.1
  have hd := jb_done hv
  have h10 := jb_10 hv
  simp only [Int.toNat_natCast] at hd h10
  have hw := jNms_ways hl hv h0
  rw [← hN, List.length_map] at hw
  by_cases hz : N.length = 0
  · refine (nx_none m l Bm Bj many d n c A J W (by omega) (by omega) h0 (by omega) q1 q2 q3 hJ).mono ?_
    rintro e W' ⟨he, hj⟩
    exact ⟨he, .inl ⟨[], (List.eq_nil_of_length_eq_zero hz).symm, hj⟩⟩
  · obtain ⟨g, off, rfl, hg, hc⟩ := (hL.below (hW.mono hB)).2 (by omega)
    exact nx_body nm m hm l Bm Bj Q many d g off n c N J Jx hY W hQj (hQ g hg) (by omega) (by omega) h0 hw ⟨q1, q2, q3, fun k s hs => hc _ (nm s) (jNms_at (i := i) (many := many) (by rw [← hN, List.getElem?_map, hs]; rfl))⟩ hJ

set_option maxRecDepth 100000 in
set_option maxHeartbeats 2000000 in
/-- slices.AppendSeq to nothing. -/
theorem nx_apps (m : Nat) (hm : 2 ≤ m) (Bm Bj : Nat) (Q : Nat → Prop) (N : List ByteArray) (hN : N.length ≤ 1000) (w : World) (hQ : ∀ b, Q b → b < w.heap.size)
    (hseq : SeqStopsK Fence.wide (m - 1) Try.prog 107 #[.pointer (some ⟨Bm, 0, none⟩), .pointer (some ⟨Bj, 0, none⟩)] (fun s : ByteArray => #[Value.string s]) (KpJ Q) (fun ys => ys = N) (fun pre => pre <+: N) N.length w) :
    CallsIn Fence.wide m Try.prog 106 #[.slice none 0 0, .func (.func 107) #[] #[.pointer (some ⟨Bm, 0, none⟩), .pointer (some ⟨Bj, 0, none⟩)]] w fun e w' =>
      ∃ v, e = .returned v ∧ w'.ownsRow w.heap.size 9 1 v N.length (N.map Value.string) ∧ Below w.heap.size w w' := by
  have h1 : 1 ≤ m := by omega
  obtain ⟨i0, hi0, hz0, hz1, hz2⟩ := info_parts str_info
  have hU := Try.underlying26
  refine callsIn_of_wp_marks Try.func106 rfl trivial ?_ rfl
  simp only [Try.ntmps106, List.size_toArray, List.length_cons, List.length_nil, Nat.reduceAdd, Nat.reduceSub, Array.replicate_succ, Array.replicate_zero, List.push_toArray, List.append_toArray, List.nil_append, List.cons_append]
  gi_wp2
  have bO := Boxed.new w 26 (.slice none 0 0)
  have hB0 : Below w.heap.size w (w.alloc (.cells #[.slice none 0 0] 26)) := (Below.refl _ w).alloc (Nat.le_refl _) _
  refine wpIn_rangeFunc_ownG rfl h1 (gf := 107) (lb := #[.pointer (some ⟨Bm, 0, none⟩), .pointer (some ⟨Bj, 0, none⟩)]) rfl trivial (enters_of Try.func107 (by kernel_rfl) rfl)
    hseq kpJ_t (kpJ_b (fun b hb => by have := hQ b hb; simp; omega)) hB0 (fun _ => rfl)
    (fun (pre : List ByteArray) W => (∃ v, Boxed W w.heap.size 26 v ∧ W.ownsRow w.heap.size 9 1 v pre.length (pre.map Value.string) ∧ True) ∧ Below w.heap.size w W)
    (fun _ _ _ => False)
    (OwnFrom.and (Own.from (holdsRow_own w.heap.size w.heap.size 26 9 1 (fun pre : List ByteArray => pre.length) (fun pre : List ByteArray => pre.map Value.string) (fun _ _ => True)) _) (ownFrom_below (Nat.le_refl _) (by simp)))
    (fun _ _ _ _ _ hs _ _ => hs)
    ⟨⟨_, bO, World.ownsRow_nil _ _ _ _, trivial⟩, hB0⟩
    (fun x => { tmps := #[.slice none 0 0, .func (.func 107) #[] #[.pointer (some ⟨Bm, 0, none⟩), .pointer (some ⟨Bj, 0, none⟩)], .pointer (some ⟨w.heap.size, 0, none⟩), undef, .slice none 0 0, .string x, .func (.func 107) #[] #[.pointer (some ⟨Bm, 0, none⟩), .pointer (some ⟨Bj, 0, none⟩)], .string x, undef, undef, undef, undef, undef], defers := [] }) ?assign ?body ?done ?stop
  case assign =>
    intro l x W K hK
    gi_wp2
    exact hK
  case body =>
    rintro l pre x W ⟨⟨v, hv, hrow, _⟩, hB⟩ hlt
    have hc := hv.cell
    gi_wp2_with (gi_at_builtin; refine wpListIn_append_own _ rfl _ _ 26 rfl w.heap.size 9 i0 _ 1 16 hU hi0 hz0 hz1 hz2 rfl (by decide) _ _ _ rfl (hrow.alloc _) ⟨W.heap.size, 0, none⟩ 1 1 [.string x] rfl rfl (cell_one_new _ _ _) (by simp [Value.oneCell']) (by unfold maxLen; omega) (by omega) (by have := hB.size; simp; omega) ?_; intro v' w1 hown' hgrow _; obtain ⟨g', cap', rfl⟩ := ownsRow_succ hown'; obtain ⟨hv1, hv2, hr2, hk2, hb2⟩ := hv.appended (by decide) hrow hB.size (Nat.le_refl _) hown' hgrow; have hc1 := hv1.cell; have hf1 := hv1.frozen)
    exact ⟨hk2.from _, kpJ_below hQ hb2, ⟨_, hv2, by simpa using hr2, trivial⟩, hB.trans hb2⟩
  case done =>
    rintro D ys W hD rfl ⟨⟨v, hv, hrow, _⟩, hB⟩ hK
    have hc := hv.cell
    gi_wp2
    refine ⟨by simp, .inl ⟨_, _, rfl, run_takeDeferred hK, ?_⟩⟩
    exact ⟨_, results_tmp rfl _ _ _, v, rfl, ownsRow_putObj hrow _ hK rfl, hB.trans (belowK_b (w := w) (Nat.le_refl _) W D _ _ (by simp at hD; omega) hK rfl rfl)⟩
  case stop =>
    rintro D c pre W _ _ h _
    exact h.elim

set_option maxHeartbeats 1000000 in
theorem nx_coll (m : Nat) (hm : 3 ≤ m) (Bm Bj : Nat) (Q : Nat → Prop) (N : List ByteArray) (hN : N.length ≤ 1000) (w : World) (hQ : ∀ b, Q b → b < w.heap.size)
    (hseq : SeqStopsK Fence.wide (m - 1 - 1) Try.prog 107 #[.pointer (some ⟨Bm, 0, none⟩), .pointer (some ⟨Bj, 0, none⟩)] (fun s : ByteArray => #[Value.string s]) (KpJ Q) (fun ys => ys = N) (fun pre => pre <+: N) N.length w) :
    CallsIn Fence.wide m Try.prog 70 #[.func (.func 107) #[] #[.pointer (some ⟨Bm, 0, none⟩), .pointer (some ⟨Bj, 0, none⟩)]] w fun e w' =>
      ∃ v, e = .returned v ∧ w'.ownsRow w.heap.size 9 1 v N.length (N.map Value.string) ∧ Below w.heap.size w w' := by
  have hfS : Fence.wide.fn 106 := trivial
  have h1 : 1 ≤ m := by omega
  refine callsIn_of_wp Try.func70 rfl trivial ?_ rfl
  simp only [Try.ntmps70, List.size_toArray, List.length_cons, List.length_nil, Nat.reduceAdd, Nat.reduceSub, Array.replicate_succ, Array.replicate_zero, List.push_toArray, List.append_toArray, List.nil_append, List.cons_append]
  gi_wp2_with (gi_at_call 106; refine (nx_apps (m - 1) (by omega) Bm Bj Q N hN w hQ hseq).mono ?_; rintro e w' ⟨v, rfl, hrow, hb⟩)
  go_ret
  exact ⟨v, rfl, hrow, hb⟩
end Go.Proofs.Ytimpmlmkhjeajaa
