/- slices.Insert of one box: the walk. -/
import Derived.Test.YtfncmkmhdddmiaaIns
import Derived.Test.YtfncmkmhdddmiaaBxr
set_option linter.unusedVariables false
set_option linter.unusedSimpArgs false
namespace Go.Proofs.Ytfncmkmhdddmiaa
open Go.RowKit Go.BigFrame

/-- Boxes with a further one, of no numbers, at a place. -/
def insV (Y : List BxV) (i : Nat) (s : ByteArray) : List BxV := Y.take i ++ [(s, [], .slice none 0 0)] ++ Y.drop i
def Inserted (base n i : Nat) (Y : List BxV) (s : ByteArray) (w : World) (e : Ending) (w' : World) : Prop := ∃ A c, e = .returned (.slice A (n + 1) c) ∧ NestB base w' A (n + 1) c (insV Y i s) ∧ Below base w w'

theorem nest_insert {base g n i N G : Nat} {Y : List BxV} {s : ByteArray} {w W w4 : World} (hN : NestB base w (some ⟨g, 0, none⟩) n n Y) (hb : base ≤ w.heap.size) (hW : Below w.heap.size w W) (hNW : N = W.heap.size)
    (own : w4.ownsRow N 40 2 (.slice (some ⟨N, 0, none⟩) (n + 1) G) (n + 1) (wcells (insV Y i s))) (hb4 : Below N W w4) : NestB base w4 (some ⟨N, 0, none⟩) (n + 1) G (insV Y i s) := by
  subst hNW
  have hs := hW.size
  have hb' : Below w.heap.size w w4 := hW.trans (hb4.mono hs)
  have hmem : ∀ y ∈ insV Y i s, y ∈ Y ∨ y = (s, [], .slice none 0 0) := fun y hy => by
    rcases List.mem_append.1 hy with h | h
    · rcases List.mem_append.1 h with h | h
      · exact .inl (List.mem_of_mem_take h)
      · exact .inr (List.mem_singleton.1 h)
    · exact .inl (List.mem_of_mem_drop h)
  refine ⟨own_base own (by omega), fun y hy => ?_, fun y hy b hb1 hb2 => ?_, ?_⟩
  · rcases hmem y hy with h | rfl
    · exact (hN.ids y h).kept (row := none) (grown_of_below hb') (by cases y.2.2.ownBlock <;> simp)
    · exact World.ownsRow_nil _ _ _ _
  · rcases hmem y hy with h | rfl
    · have := (hN.ids y h).lt b hb1
      simp [Value.ownBlock] at hb2
      omega
    · simp [Value.ownBlock] at hb1
  · unfold insV
    rw [List.append_assoc, List.singleton_append, List.pairwise_append]
    have h2 := hN.two
    refine ⟨h2.sublist (List.take_sublist _ _), List.pairwise_cons.2 ⟨fun z _ b hb1 => by simp [Value.ownBlock] at hb1, h2.sublist (List.drop_sublist _ _)⟩, fun y hy z hz b hb1 hb2 => ?_⟩
    rcases List.mem_cons.1 hz with rfl | hz
    · simp [Value.ownBlock] at hb2
    · have h3 : (Y.take i ++ Y.drop i).Pairwise fun y z => ∀ b, y.2.2.ownBlock = some b → z.2.2.ownBlock ≠ some b := by rw [List.take_append_drop]; exact h2
      exact (List.pairwise_append.1 h3).2.2 y hy z hz b hb1 hb2

set_option maxHeartbeats 4000000 in
set_option maxRecDepth 100000 in
theorem insert_any (base g n i : Nat) (z : Int) (Y : List BxV) (s : ByteArray) (w : World) (hz : z = (i : Int)) (hN : NestB base w (some ⟨g, 0, none⟩) n n Y) (hin : i ≤ n) (hn : n ≤ 100) (hb : base ≤ w.heap.size) :
    Calls Try.prog 60 #[.slice (some ⟨g, 0, none⟩) n n, .int .i64 z, .slice (some ⟨w.heap.size, 0, none⟩) 1 1] (w.alloc (.cells #[.string s, .slice none 0 0] 40)) (Inserted base n i Y s w) := by
  subst hz
  obtain ⟨i2, hi2, hz0, hz1, hz2⟩ := info_parts' box_info
  have hUB := Try.underlying31
  have HN := hide hN
  have hba := (Below.refl w.heap.size w).alloc (Nat.le_refl _) (.cells #[.string s, .slice none 0 0] 40)
  have Hba := hide hba
  by_cases hlt : i < n
  · have hg : g < w.heap.size := (hN.row.lt g rfl).2
    have hcl : (wcells Y).length = n * 2 := hN.row.1
    obtain ⟨R⟩ := ins_run (P := Try.prog) (T := 31) (TI := 3) (e := 40) (inf := i2) (w.alloc (.cells #[.string s, .slice none 0 0] 40)) g w.heap.size n i (wcells Y) (.string s) (.slice none 0 0) hUB Try.underlying3 hi2 hz0 hz1 hz2 rfl hlt (by omega) hcl (by simp; omega)
      (fun j v hj => by
        have hj2 : j < n * 2 := by rw [← hcl]; exact (List.getElem?_eq_some_iff.1 hj).1
        exact (hba.cell (p := ⟨g, j, none⟩) hg).trans ((hN.row.cellAt j hj2).trans hj)) (wcells_one hN.ids) (by simp) ((Blk.new _ _ _).cell 0) ((Blk.new _ _ _).cell 1) rfl rfl
    have hsz : (w.alloc (.cells #[.string s, .slice none 0 0] 40)).heap.size = w.heap.size + 1 := by simp
    have r2 := R.r2
    have r3 := R.r3
    have r4 := R.r4
    have hG := R.hG
    have hG2 := R.hG2
    have own := R.own
    have hb4 := R.below
    rw [wcells_take, wcells_drop] at own
    have own' : R.w4.ownsRow (w.alloc (.cells #[.string s, .slice none 0 0] 40)).heap.size 40 2 (.slice (some ⟨(w.alloc (.cells #[.string s, .slice none 0 0] 40)).heap.size, 0, none⟩) (n + 1) R.G) (n + 1) (wcells (insV Y i s)) := by
      unfold insV; rw [wcells_app, wcells_app]; exact own
    have HNest := hide (nest_insert hN hb hba rfl own' hb4)
    have HB4 := hide ((hba.mono hb).trans (hb4.mono (by simp; omega)))
    rw [hsz] at r2 r3 r4 HNest
    generalize R.G = G at *
    generalize R.w2 = w2 at *
    generalize R.w3 = w3 at *
    generalize R.w4 = w4 at *
    have s1 : ∀ W : World, (Instr.slice 31 (.slice (some ⟨g, 0, none⟩) n n) (some (.int .i64 (i : Int))) none none).run Try.prog W = .ok (.slice (some ⟨g, i * 2, none⟩) (n - i) (n - i)) W := slice_from_run hUB hi2 hz1 g n n i (i : Int) rfl hin hlt (Nat.le_refl _)
    have s2 : ∀ W : World, (Instr.slice 31 (.slice (some ⟨g, 0, none⟩) n n) none (some (.int .i64 (i : Int))) none).run Try.prog W = .ok (.slice (some ⟨g, 0, none⟩) i n) W := slice_to_run hUB hi2 (some ⟨g, 0, none⟩) n n i (i : Int) rfl hin (Nat.le_refl _)
    have s3 : ∀ W : World, (Instr.slice 31 (.slice (some ⟨w.heap.size + 1, 0, none⟩) (n + 1) G) (some (.int .i64 (i : Int))) none none).run Try.prog W = .ok (.slice (some ⟨w.heap.size + 1, i * 2, none⟩) (n + 1 - i) (G - i)) W := slice_from_run hUB hi2 hz1 (w.heap.size + 1) (n + 1) G i (i : Int) rfl (by omega) (by omega) hG
    have s4 : ∀ W : World, (Instr.slice 31 (.slice (some ⟨w.heap.size + 1, 0, none⟩) (n + 1) G) (some (.int .i64 ((i : Int) + 1))) none none).run Try.prog W = .ok (.slice (some ⟨w.heap.size + 1, (i + 1) * 2, none⟩) (n + 1 - (i + 1)) (G - (i + 1))) W := slice_from_run hUB hi2 hz1 (w.heap.size + 1) (n + 1) G (i + 1) ((i : Int) + 1) (by omega) (by omega) (by omega) hG
    have hne : ((i : Int) == (n : Int)) = false := by simp; omega
    have hlti : (i : Int) < (n : Int) := by omega
    have hw1 : IntKind.i64.wrap ((i : Int) + 1) = (i : Int) + 1 := by rw [IntKind.wrap_i64]; omega
    have hb1 : (0 : Int) ≤ (i : Int) + 1 := by omega
    have hb3 : (i : Int) + 1 ≤ (n : Int) + 1 := by omega
    have htn : ((i : Int) + 1).toNat = i + 1 := by omega
    have hGim : ¬ (G = i + 1) := by omega
    clear own own' hb4 hsz hba hcl hN R
    go_enter Try.func60, Try.ntmps60
    go_wp2_with (first
      | (at_builtin; refine Lib.wpList_append_run _ rfl _ _ _ _ rfl _ _ rfl rfl _ _ (r2 _) ?_)
      | (at_builtin; refine wpList_copy_runI _ rfl _ _ _ _ rfl _ _ rfl rfl (r3 _) ?_)
      | fail)
    go_region_law (refine step_copy_runI rfl (.tmp 50) (.tmp 53) 31 31 rfl (.slice (some ⟨w.heap.size + 1, (i + 1) * 2, none⟩) (n + 1 - (i + 1)) (G - (i + 1))) (.slice (some ⟨g, i * 2, none⟩) (n - i) (n - i)) (by simp [Act.eval, Act.put]) (by simp [Act.eval, Act.put]) (r4 3) ?_)
    all_goals
      go_wp2_with fail
      go_ret
      exact ⟨_, _, rfl, HNest.out, HB4.out⟩
  · obtain rfl : i = n := by omega
    obtain ⟨D, hD, _, _⟩ := slice_from hUB hi2 hz1 (some ⟨g, 0, none⟩) i i i (i : Int) rfl (Nat.le_refl _) (Nat.le_refl _)
    have own1 := hide (hN.row.alloc (.cells #[.string s, .slice none 0 0] 40))
    have hYt : insV Y i s = Y ++ [(s, [], .slice none 0 0)] := by
      have := hN.len
      unfold insV
      rw [List.take_of_length_le (by omega), List.drop_of_length_le (by omega), List.append_nil]
    have HY := hide hYt
    clear hYt hba hN
    go_enter Try.func60, Try.ntmps60
    go_wp2_with (
      (at_builtin
       refine wpList_append_rd _ rfl (.tmp 23) (.tmp 24) _ rfl base 40 i2 _ 2 40 hUB hi2 hz0 hz1 hz2 rfl (by omega) (.slice (some ⟨g, 0, none⟩) i i) i (wcells Y) rfl own1.out (w.heap.size + 1) (some ⟨w.heap.size, 0, none⟩) 1 _ [Value.string s, .slice none 0 0] rfl (rd_two _ _ _ _) (by intro u hu; simp at hu; rcases hu with rfl | rfl <;> rfl) (by unfold maxLen; omega) (by omega) (by simp; omega) ?_
       intro v9 w9 own9 gr9 at9
       have Hb9 : Hid (Below base w w9) := Below.own ((Hba.out).mono hb) gr9 own1.out (Nat.le_refl _) (by simp; omega)
       obtain ⟨A9, c9, e9, N9⟩ := NestB.snoc (nm := s) (L := []) (m := 0) HN.out (Below.refl _ _) (World.ownsRow_nil _ _ _ _) hb own9 gr9 at9
       subst e9
       have HN9 := hide N9
       clear gr9 at9 own9 N9))
    go_ret
    exact ⟨_, _, rfl, by rw [HY.out]; exact HN9.out, Hb9.out⟩
end Go.Proofs.Ytfncmkmhdddmiaa
