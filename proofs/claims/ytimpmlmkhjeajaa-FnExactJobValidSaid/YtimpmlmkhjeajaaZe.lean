/- Texts joined: Jv, Jst. -/
import Derived.Test.YtimpmlmkhjeajaaZc
import Derived.Test.YtimpmlmkhjeajaaZd

/- JobValid, JobNew of the spec. -/
set_option linter.unusedVariables false
set_option linter.unusedSimpArgs false
namespace Go.Proofs.Ytimpmlmkhjeajaa
open Go.RowKit

set_option maxHeartbeats 1000000 in
set_option maxRecDepth 100000 in
theorem s_JobValid (i d : Int) (A : Option Addr) (n c : Nat) (L : List ByteArray) (w : World) (hL : Strs w w.heap.size A n L) (hS : Small L) (hn : n ≤ maxLen) :
    Calls Try.prog 39 #[.agg #[.int .i64 i, .slice A n c, .int .i64 d]] w fun e w' => e = .returned (.bool (jbB (i, L, d))) ∧ Below w.heap.size w w' := by
  have HN := hide hn
  unfold maxLen at hn
  have hl := hide hL.1
  have HL : ∀ T, Hid (Strs (w.alloc (.cells #[.int .i64 i, .slice A n c, .int .i64 d] T)) (w.alloc (.cells #[.int .i64 i, .slice A n c, .int .i64 d] T)).heap.size A n L) := fun T => hide ((hL.alloc (Nat.le_refl _) _).more (by simp))
  have HL := hide HL
  have HS := hide hS
  clear hL hS
  go_enter Try.func39, Try.ntmps39
  go_wp2_with fail
  refine (s_in i 1 999 _).mono ?_
  rintro e w' ⟨rfl, rfl⟩
  cases h1 : inB i 1 999
  · have H : Hid (jbB (i, L, d) = false) := jbB_1 h1
    clear h1
    go_wp2_with fail
    go_ret
    exact ⟨ret_bool H.out.symm, (Below.refl _ _).alloc (Nat.le_refl _) _⟩
  have H1 : Hid (inR i = true) := h1
  clear h1
  go_wp2_with fail
  refine (s_NamesValid A n c L _ (HL.out _).out HS.out HN.out).mono ?_
  rintro e w' ⟨rfl, q, rfl⟩
  cases h2 : nsB L
  · have H : Hid (jbB (i, L, d) = false) := jbB_2 h2
    clear h2
    go_wp2_with fail
    go_ret
    exact ⟨ret_bool H.out.symm, below_drewN ((Below.refl _ _).alloc (Nat.le_refl _) _) q⟩
  have H : Hid (jbB (i, L, d) = inB d 0 n) := by show _ = _; rw [jbB_t H1.out h2, ← hl.out]; rfl
  clear h2
  go_wp2_with fail
  refine (s_in d 0 n _).mono ?_
  rintro e w' ⟨rfl, rfl⟩
  go_wp2_with fail
  go_ret
  exact ⟨ret_bool H.out.symm, below_drewN ((Below.refl _ _).alloc (Nat.le_refl _) _) q⟩

/-- The three cells of a job, stored anew. -/
theorem Blk.job {w : World} {p : Nat} {T : TypeId} {a b d a' b' d' : Value} (h : Blk w p T #[a, b, d]) :
    Blk (((w.setCell ⟨p, 0, none⟩ a').setCell ⟨p, 1, none⟩ b').setCell ⟨p, 2, none⟩ d') p T #[a', b', d'] := ((h.set_ 0 a').set_ 1 b').set_ 2 d'
theorem Blk.cells3 {w : World} {p : Nat} {T : TypeId} {a b d : Value} (h : Blk w p T #[a, b, d]) :
    (w.cell? ⟨p, 0, none⟩ = some a ∧ w.cell? ⟨p, 1, none⟩ = some b ∧ w.cell? ⟨p, 2, none⟩ = some d) ∧ (w.frozen? ⟨p, 0, none⟩ = false ∧ w.frozen? ⟨p, 1, none⟩ = false ∧ w.frozen? ⟨p, 2, none⟩ = false) := ⟨⟨h.cell 0, h.cell 1, h.cell 2⟩, h.frozen 0, h.frozen 1, h.frozen 2⟩
theorem below_job {B : Nat} {w w' : World} {p : Nat} (h : Below B w w') (hp : B ≤ p) (a b d : Value) : Below B w (((w'.setCell ⟨p, 0, none⟩ a).setCell ⟨p, 1, none⟩ b).setCell ⟨p, 2, none⟩ d) := ((h.setCell hp a).setCell hp b).setCell hp d
theorem own_job {base p : Nat} {w : World} {e : TypeId} {size n : Nat} {v : Value} {xs : List Value} (h : w.ownsRow base e size v n xs) (hp : v.ownBlock ≠ some p) (a b d : Value) : (((w.setCell ⟨p, 0, none⟩ a).setCell ⟨p, 1, none⟩ b).setCell ⟨p, 2, none⟩ d).ownsRow base e size v n xs := by
  have g : ∀ (W : World) (o : Nat) (v : Value), W.grownBy (W.setCell ⟨p, o, none⟩ v) (some p) := fun W o v => ⟨rfl, rfl, rfl, by simp, fun k _ hk => heap_setCell_other _ ⟨p, o, none⟩ k v (fun e => hk (by simp [e]))⟩
  exact ((h.kept (g _ _ _) (.inr hp)).kept (g _ _ _) (.inr hp)).kept (g _ _ _) (.inr hp)

set_option maxHeartbeats 1000000 in
set_option maxRecDepth 100000 in
theorem s_JobNew (A : Option Addr) (n c : Nat) (X : List Acc) (s : ByteArray) (id : Int) (w : World) (hX : Accs w w.heap.size A n X) (hS : ASmall X) (hn : n ≤ maxLen) :
    Calls Try.prog 21 #[.slice A n c, .string s, .int .i64 id] w fun e w' => Own2J w (jNewM X s id) e w' := by
  have HX := hide hX
  have HS := hide hS
  have HN := hide hn
  have hl := hide hX.1
  have HB0 := hide (Blk.new w 28 #[.int .i64 0, .slice none 0 0, .int .i64 0])
  have Hb0 := hide ((Below.refl w.heap.size w).alloc (Nat.le_refl _) (.cells #[.int .i64 0, .slice none 0 0, .int .i64 0] 28))
  have hs0 : (w.alloc (.cells #[.int .i64 0, .slice none 0 0, .int .i64 0] 28)).heap.size = w.heap.size + 1 := by simp
  have HX0 := hide ((hX.below Hb0.out).up (Nat.le_trans (Nat.le_succ _) (Nat.le_of_eq hs0.symm)))
  have Hs0 := hide hs0
  clear hX hS hn hs0
  go_enter Try.func21, Try.ntmps21
  go_wp2_with fail
  refine (s_As A n c X _ HX0.out HS.out HN.out).mono ?_
  rintro e w1 ⟨rfl, hb1⟩
  have HB1 := hide (HB0.out.below hb1 (by rw [Hs0.out]; omega))
  have Hb1 := hide (Hb0.out.trans (hb1.mono (by rw [Hs0.out]; omega)))
  have hs1 : w.heap.size + 1 ≤ w1.heap.size := by have h := hb1.size; rw [Hs0.out] at h; exact h
  have HX1 := hide (HX0.out.on hb1)
  obtain ⟨⟨c10, c11, c12⟩, f10, f11, f12⟩ := HB1.out.cells3
  clear hb1
  cases h1 : asB X
  · have H : Hid (jNewM X s id = none) := jNew_1 h1
    clear h1
    have HBe := HB1.out.job (a' := .int .i64 0) (b' := .slice none 0 0) (d' := .int .i64 0)
    obtain ⟨⟨e0, e1, e2⟩, _⟩ := HBe.cells3
    have Hbe := hide (below_job Hb1.out (Nat.le_refl _) (.int .i64 0) (.slice none 0 0) (.int .i64 0))
    clear HBe
    go_wp2_with fail
    exact bodyPost_ret (v := .tuple #[.agg #[.int .i64 0, .slice none 0 0, .int .i64 0], .bool false]) (by simp [results, Try.results21, go_sem, e0, e1, e2]) rfl ⟨_, by rw [H.out]; rfl, by rw [H.out]; exact ⟨none, 0, 0, rfl, World.ownsRow_nil _ _ _ _⟩, Hbe.out⟩
  have H1 := hide h1
  clear h1
  go_wp2_with fail
  refine (s_l2At A n c X s _ HX1.out HN.out).mono ?_
  rintro e w' ⟨rfl, rfl⟩
  cases h2 : memB (nms X) s
  · have H : Hid (jNewM X s id = none) := jNew_2 h2
    have hq : atI (nms X) s = -1 := atI_f h2
    rw [hq]
    clear h2 hq
    have HBe := HB1.out.job (a' := .int .i64 0) (b' := .slice none 0 0) (d' := .int .i64 0)
    obtain ⟨⟨e0, e1, e2⟩, _⟩ := HBe.cells3
    have Hbe := hide (below_job Hb1.out (Nat.le_refl _) (.int .i64 0) (.slice none 0 0) (.int .i64 0))
    clear HBe
    go_wp2_with fail
    exact bodyPost_ret (v := .tuple #[.agg #[.int .i64 0, .slice none 0 0, .int .i64 0], .bool false]) (by simp [results, Try.results21, go_sem, e0, e1, e2]) rfl ⟨_, by rw [H.out]; rfl, by rw [H.out]; exact ⟨none, 0, 0, rfl, World.ownsRow_nil _ _ _ _⟩, Hbe.out⟩
  have H2 := hide h2
  obtain ⟨k, hk⟩ : ∃ k : Nat, atI (nms X) s = k := by
    obtain ⟨k, F, hk⟩ := nms_mem (memB_iff.1 h2)
    exact ⟨k, atI_of (nms_at hk) (fun j hj hs => by have := (asB_asc H1.out).uniq hs (nms_at hk); omega)⟩
  rw [hk]
  clear h2 hk
  go_wp2_with fail
  refine (s_in id 1 999 _).mono ?_
  rintro e w' ⟨rfl, rfl⟩
  cases h3 : inB id 1 999
  · have H : Hid (jNewM X s id = none) := jNew_3 h3
    clear h3
    have HBe := HB1.out.job (a' := .int .i64 0) (b' := .slice none 0 0) (d' := .int .i64 0)
    obtain ⟨⟨e0, e1, e2⟩, _⟩ := HBe.cells3
    have Hbe := hide (below_job Hb1.out (Nat.le_refl _) (.int .i64 0) (.slice none 0 0) (.int .i64 0))
    clear HBe
    go_wp2_with fail
    exact bodyPost_ret (v := .tuple #[.agg #[.int .i64 0, .slice none 0 0, .int .i64 0], .bool false]) (by simp [results, Try.results21, go_sem, e0, e1, e2]) rfl ⟨_, by rw [H.out]; rfl, by rw [H.out]; exact ⟨none, 0, 0, rfl, World.ownsRow_nil _ _ _ _⟩, Hbe.out⟩
  have H : Hid (jNewM X s id = some (id, fol X s, 0)) := jNew_t H1.out H2.out h3
  clear h3
  go_wp2_with fail
  refine (s_fof A n c X s _ HX1.out HS.out HN.out).mono ?_
  rintro e w2 ⟨v, rfl, ⟨A2, n2, c2, rfl, own2⟩, hb2⟩
  rw [folM_t H1.out] at own2
  have HB2 := hide (HB1.out.below hb2 (by omega))
  have Hb2 := hide (Hb1.out.trans (hb2.mono (by omega)))
  have Own2 := hide (own_base own2 (show w.heap.size ≤ _ by omega))
  have hne : (Value.slice A2 n2 c2).ownBlock ≠ some w.heap.size := fun e => by have := (own2.lt _ e).1; omega
  have OwnE := hide (own_job Own2.out hne (.int .i64 id) (.slice A2 n2 c2) (.int .i64 0))
  obtain ⟨⟨c20, c21, c22⟩, f20, f21, f22⟩ := HB2.out.cells3
  have HBe := HB2.out.job (a' := .int .i64 id) (b' := .slice A2 n2 c2) (d' := .int .i64 0)
  obtain ⟨⟨e0, e1, e2⟩, _⟩ := HBe.cells3
  have Hbe := hide (below_job Hb2.out (Nat.le_refl _) (.int .i64 id) (.slice A2 n2 c2) (.int .i64 0))
  clear hb2 own2 hne HBe
  go_wp2_with fail
  exact bodyPost_ret (v := .tuple #[.agg #[.int .i64 id, .slice A2 n2 c2, .int .i64 0], .bool true]) (by simp [results, Try.results21, go_sem, e0, e1, e2]) rfl ⟨_, by rw [H.out]; rfl, by rw [H.out]; exact ⟨_, _, _, rfl, OwnE.out⟩, Hbe.out⟩
end Go.Proofs.Ytimpmlmkhjeajaa

/- Words for the laws of jobs: what lies in memory there. -/
set_option linter.unusedVariables false
set_option linter.unusedSimpArgs false
namespace Go.Proofs.Ytimpmlmkhjeajaa
open Go.RowKit

section
variable {w w' : World} {e : Ending}
theorem own2_n (h : Own2J w none e w') : ∃ A n c, e = .returned (.tuple #[.agg #[.int .i64 0, .slice A n c, .int .i64 0], .bool false]) ∧ n ≤ c ∧ c ≤ maxLen ∧ Strs w' w'.heap.size A n [] ∧ Below w.heap.size w w' := own2_job h
theorem own2_s {x1 x3 : Int} {x2 : List ByteArray} (h : Own2J w (some (x1, x2, x3)) e w') : ∃ A n c, e = .returned (.tuple #[.agg #[.int .i64 x1, .slice A n c, .int .i64 x3], .bool true]) ∧ n ≤ c ∧ c ≤ maxLen ∧ Strs w' w'.heap.size A n x2 ∧ Below w.heap.size w w' := own2_job h
theorem own3_n (h : Own3J w none e w') : ∃ A n c B m d, e = .returned (.tuple #[.slice A n c, .agg #[.int .i64 0, .slice B m d, .int .i64 0], .bool false]) ∧ n ≤ c ∧ c ≤ maxLen ∧ m ≤ d ∧ d ≤ maxLen ∧ Strs w' w'.heap.size A n [] ∧ Strs w' w'.heap.size B m [] ∧ Below w.heap.size w w' := own3_job h
theorem own3_s {N : List ByteArray} {x1 x3 : Int} {x2 : List ByteArray} (h : Own3J w (some (N, x1, x2, x3)) e w') : ∃ A n c B m d, e = .returned (.tuple #[.slice A n c, .agg #[.int .i64 x1, .slice B m d, .int .i64 x3], .bool true]) ∧ n ≤ c ∧ c ≤ maxLen ∧ m ≤ d ∧ d ≤ maxLen ∧ Strs w' w'.heap.size A n N ∧ Strs w' w'.heap.size B m x2 ∧ Below w.heap.size w w' := own3_job h
theorem own3_rn (h : Own3B w none e w') : ∃ A n c B m d, e = .returned (.tuple #[.slice A n c, .agg #[.int .i64 0, .slice B m d, .int .i64 0], .bool false]) ∧ n ≤ c ∧ c ≤ maxLen ∧ m ≤ d ∧ d ≤ maxLen ∧ Bxs w' w'.heap.size A n [] ∧ Strs w' w'.heap.size B m [] ∧ Below w.heap.size w w' := own3_run h
theorem own3_rs {O : List Bx} {x1 x3 : Int} {x2 : List ByteArray} (h : Own3B w (some (O, x1, x2, x3)) e w') : ∃ A n c B m d, e = .returned (.tuple #[.slice A n c, .agg #[.int .i64 x1, .slice B m d, .int .i64 x3], .bool true]) ∧ n ≤ c ∧ c ≤ maxLen ∧ m ≤ d ∧ d ≤ maxLen ∧ Bxs w' w'.heap.size A n O ∧ Strs w' w'.heap.size B m x2 ∧ Below w.heap.size w w' := own3_run h
end
/-- A job in a variable: block q. -/
structure JVar (W : World) (q : Nat) (i d : Int) (A : Option Addr) (n c : Nat) (L : List ByteArray) : Prop where
  blk : Blk W q 28 #[.int .i64 i, .slice A n c, .int .i64 d]
  st : Strs W W.heap.size A n L
theorem JVar.new {W : World} {i d : Int} {A : Option Addr} {n c : Nat} {L : List ByteArray} (h : Strs W W.heap.size A n L) : JVar (W.alloc (.cells #[.int .i64 i, .slice A n c, .int .i64 d] 28)) W.heap.size i d A n c L := ⟨Blk.new _ _ _, h.on' ((Below.refl _ _).alloc (Nat.le_refl _) _)⟩
theorem JVar.on {W W' : World} {q : Nat} {i d : Int} {A : Option Addr} {n c : Nat} {L : List ByteArray} (h : JVar W q i d A n c L) (hb : Below W.heap.size W W') : JVar W' q i d A n c L := ⟨h.blk.below hb h.blk.lt, h.st.on' hb⟩
theorem JVar.cells {W : World} {q : Nat} {i d : Int} {A : Option Addr} {n c : Nat} {L : List ByteArray} (h : JVar W q i d A n c L) : W.cell? ⟨q, 0, none⟩ = some (.int .i64 i) ∧ W.cell? ⟨q, 1, none⟩ = some (.slice A n c) ∧ W.cell? ⟨q, 2, none⟩ = some (.int .i64 d) := h.blk.cells3.1
theorem below_new {B : Nat} {w W : World} {e : TypeId} {cs : Array Value} (h : Below B w W) (hB : B ≤ w.heap.size) : Below B w (W.alloc (.cells cs e)) := h.alloc (Nat.le_trans hB h.size) _
theorem below_on {B : Nat} {w W W' : World} (h : Below B w W) (hB : B ≤ w.heap.size) (hb : Below W.heap.size W W') : Below B w W' := h.trans (hb.mono (Nat.le_trans hB h.size))
theorem on_new (W : World) (e : TypeId) (cs : Array Value) : Below W.heap.size W (W.alloc (.cells cs e)) := (Below.refl _ _).alloc (Nat.le_refl _) _
end Go.Proofs.Ytimpmlmkhjeajaa
