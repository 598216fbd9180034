/- Texts joined: Ijr, Ijb. -/
import Derived.Test.YtimpmlmkhjeajaaZk
import Derived.Test.YtimpmlmkhjeajaaZj
import Derived.Test.YtimpmlmkhjeajaaJr

/- JobRun of the program: with it the program's four functions of jobs stand. -/
set_option linter.unusedVariables false
set_option linter.unusedSimpArgs false
namespace Go.Proofs.Ytimpmlmkhjeajaa
open Go.RowKit Go.Shelf
attribute [local go_sem] Oper.semAt_some

theorem blk_one {w : World} {p : Nat} {T : TypeId} {v : Value} (h : Blk w p T #[v]) : w.cell? ⟨p, 0, none⟩ = some v ∧ w.frozen? ⟨p, 0, none⟩ = false := ⟨h.cell 0, h.frozen 0⟩
/-- The three results, stored. -/
theorem jr_end {W : World} {p : Nat} {T1 T2 T3 : TypeId} {u1 u2 u3 u4 u5 : Value} (R : Blk W (p + 1) T1 #[u1]) (S : Blk W (p + 1 + 1) T2 #[u2, u3, u4]) (T : Blk W (p + 1 + 1 + 1) T3 #[u5]) (r j0 j1 j2 k : Value) :
    let F := ((((W.setCell ⟨p + 1, 0, none⟩ r).setCell ⟨p + 1 + 1, 0, none⟩ j0).setCell ⟨p + 1 + 1, 1, none⟩ j1).setCell ⟨p + 1 + 1, 2, none⟩ j2).setCell ⟨p + 1 + 1 + 1, 0, none⟩ k
    Blk F (p + 1) T1 #[r] ∧ Blk F (p + 1 + 1) T2 #[j0, j1, j2] ∧ Blk F (p + 1 + 1 + 1) T3 #[k] := by
  have n1 : p + 1 ≠ p + 1 + 1 := by omega
  have n2 : p + 1 ≠ p + 1 + 1 + 1 := by omega
  have n3 : p + 1 + 1 ≠ p + 1 + 1 + 1 := by omega
  refine ⟨?_, ?_, ?_⟩
  · exact ((((R.set_ 0 r).far n1 _).far n1 _).far n1 _).far n2 _
  · exact ((S.far n1.symm r).job (a' := j0) (b' := j1) (d' := j2)).far n3 _
  · exact ((((T.far n2.symm r).far n3.symm _).far n3.symm _).far n3.symm _).set_ 0 k
theorem jr_below {w W : World} {p : Nat} (h : Below w.heap.size w W) (hp : w.heap.size ≤ p) (r j0 j1 j2 k : Value) :
    Below w.heap.size w (((((W.setCell ⟨p + 1, 0, none⟩ r).setCell ⟨p + 1 + 1, 0, none⟩ j0).setCell ⟨p + 1 + 1, 1, none⟩ j1).setCell ⟨p + 1 + 1, 2, none⟩ j2).setCell ⟨p + 1 + 1 + 1, 0, none⟩ k) :=
  ((((h.setCell (p := ⟨p + 1, 0, none⟩) (by show w.heap.size ≤ p + 1; omega) _).setCell (p := ⟨p + 1 + 1, 0, none⟩) (by show w.heap.size ≤ p + 1 + 1; omega) _).setCell (p := ⟨p + 1 + 1, 1, none⟩) (by show w.heap.size ≤ p + 1 + 1; omega) _).setCell (p := ⟨p + 1 + 1, 2, none⟩) (by show w.heap.size ≤ p + 1 + 1; omega) _).setCell (p := ⟨p + 1 + 1 + 1, 0, none⟩) (by show w.heap.size ≤ p + 1 + 1 + 1; omega) _
/-- Boxes, a job; the job's names lie before the boxes. -/
def Own3M (w : World) (o : Option (List Bx × Jb)) (e : Ending) (w' : World) : Prop := ∃ A n c Y B m d mid, e = .returned (.tuple #[.slice A n c, .agg #[.int .i64 (o.getD ([], jb0)).2.1, .slice B m d, .int .i64 (o.getD ([], jb0)).2.2.2], .bool o.isSome]) ∧
  bxV Y = (o.getD ([], jb0)).1 ∧ w.heap.size ≤ mid ∧ NestB mid w' A n c Y ∧ w'.ownsRow w.heap.size 9 1 (.slice B m d) m ((o.getD ([], jb0)).2.2.1.map Value.string) ∧ (∀ b, (Value.slice B m d).ownBlock = some b → b < mid) ∧ Below w.heap.size w w'
theorem own3_of_M {w w' : World} {o : Option (List Bx × Jb)} {e : Ending} (h : Own3M w o e w') : Own3B w o e w' := by
  obtain ⟨A, n, c, Y, B, m, d, mid, rfl, h1, h2, h3, h4, h5, h6⟩ := h
  exact ⟨A, n, c, Y, B, m, d, rfl, h1, h3.down h2, h4, fun b hb e => by have := (h3.lt hb).1; have := h5 b e; omega, h6⟩
theorem jr_none {w W : World} (h : Below w.heap.size w W) : Own3M w none (.returned (.tuple #[.slice none 0 0, .agg #[.int .i64 0, .slice none 0 0, .int .i64 0], .bool false])) W :=
  ⟨none, 0, 0, [], none, 0, 0, w.heap.size, rfl, rfl, Nat.le_refl _, NestB.nil _ _, World.ownsRow_nil _ _ _ _, fun b e => by simp [Value.ownBlock] at e, h⟩

/-- A short name. -/
abbrev NmS := { s : ByteArray // s.size ≤ maxLen }
theorem nmS_of : ∀ {L : List ByteArray}, Small L → ∃ N : List NmS, N.map (fun s => s.1) = L
  | [], _ => ⟨[], rfl⟩
  | s :: L, h => by
    obtain ⟨N, hN⟩ := nmS_of (L := L) fun t ht => h t (List.mem_cons_of_mem _ ht)
    exact ⟨⟨s, h s (List.mem_cons_self ..)⟩ :: N, by rw [List.map_cons, hN]⟩
theorem Blk.keepRow {W W' : World} {row : Option Nat} {p : Nat} {T : TypeId} {cs : Array Value} (h : Blk W p T cs) (hg : W.grownBy W' row) (hr : ∀ r, row = some r → ∃ o : Obj, W.heap[r]? = some o ∧ o.isCells = false) : Blk W' p T cs :=
  h.grown hg fun e => by obtain ⟨o, ho, hc⟩ := hr p e.symm; rw [show W.heap[p]? = _ from h] at ho; cases ho; cases hc
theorem own_cells {W : World} {base : Nat} {e : TypeId} {size n b : Nat} {v : Value} {xs : List Value} (h : W.ownsRow base e size v n xs) (hb : v.ownBlock = some b) : ∃ cur T, W.heap[b]? = some (.cells cur T (0, 0)) := by
  rcases h.2 with ⟨rfl, _⟩ | ⟨g, cap, cur, rfl, _, hgb, _⟩
  · simp [Value.ownBlock] at hb
  · obtain rfl : g = b := by simpa [Value.ownBlock] using hb
    exact ⟨_, _, hgb⟩
theorem NestB.keepRow {base n c : Nat} {A : Option Addr} {Y : List BxV} {W W' : World} {row : Option Nat} (h : NestB base W A n c Y) (hg : W.grownBy W' row) (hr : ∀ r, row = some r → ∃ o : Obj, W.heap[r]? = some o ∧ o.isCells = false) : NestB base W' A n c Y :=
  h.kept hg.os hg.tape hg.output hg.size fun b hb => hg.block b (h.lt hb).2 fun e => by
    obtain ⟨o, ho, hc⟩ := hr b e.symm
    have : ∃ cur T, W.heap[b]? = some (.cells cur T (0, 0)) := by
      rcases hb with hb | ⟨y, hy, hb⟩
      · exact own_cells h.row hb
      · exact own_cells (h.ids y hy) hb
    obtain ⟨cur, T, h2⟩ := this
    rw [h2] at ho; cases ho; cases hc
/-- Between two rounds. -/
structure JrI (w1 : World) (pR : Nat) (i : Int) (X : List Bx) (x1 x3 : Int) (vB : Value) (S : List ByteArray) (W : World) : Prop where
  box : ∃ A4 n4 c4 O, Blk W pR 41 #[.slice A4 n4 c4] ∧ OwnB (w1.heap.size + 2) W (.slice A4 n4 c4) O ∧ runB i S X = some O ∧ bxsB O = true
  beh : Blk W w1.heap.size 28 #[.int .i64 x1, vB, .int .i64 x3]
  ok : ∃ b, Blk W (w1.heap.size + 1) 4 #[.bool b]
  sz : pR + 3 ≤ W.heap.size
theorem jrI_own (w1 : World) (pR : Nat) (i : Int) (X : List Bx) (x1 x3 : Int) (vB : Value) : Own (fun (pre : List NmS) W => JrI w1 pR i X x1 x3 vB (pre.map fun s => s.1) W) := by
  rintro pre W W' row ⟨⟨A4, n4, c4, O, h1, ⟨A', n', c', Y, e, hY, hN⟩, h3, h4⟩, h5, ⟨b, h6⟩, h7⟩ hg hr
  exact ⟨⟨A4, n4, c4, O, h1.keepRow hg hr, ⟨A', n', c', Y, e, hY, hN.keepRow hg hr⟩, h3, h4⟩, h5.keepRow hg hr, ⟨b, h6.keepRow hg hr⟩, Nat.le_trans h7 hg.size⟩
/-- A round has said no. -/
structure JrX (p : Nat) (i : Int) (X : List Bx) (c : Go.Code) (S : List ByteArray) (W : World) : Prop where
  ret : c = .ret
  no : runB i S X = none
  r : Blk W (p + 1) 41 #[.slice none 0 0]
  s : Blk W (p + 1 + 1) 28 #[.int .i64 0, .slice none 0 0, .int .i64 0]
  t : Blk W (p + 1 + 1 + 1) 4 #[.bool false]
theorem jrX_own (p : Nat) (i : Int) (X : List Bx) (c : Go.Code) : Own (fun (pre : List NmS) W => JrX p i X c (pre.map fun s => s.1) W) := by
  rintro pre W W' row ⟨h1, h2, h3, h4, h5⟩ hg hr
  exact ⟨h1, h2, h3.keepRow hg hr, h4.keepRow hg hr, h5.keepRow hg hr⟩
/-- The boxes and whether it went well, stored. -/
theorem jr_put {w6 : World} {pR pK : Nat} {T T' : TypeId} {u u' : Value} (hne : pR ≠ pK) (RB : Blk w6 pR T #[u]) (KB : Blk w6 pK T' #[u']) (v k : Value) :
    Blk ((w6.setCell ⟨pR, 0, none⟩ v).setCell ⟨pK, 0, none⟩ k) pR T #[v] ∧ Blk ((w6.setCell ⟨pR, 0, none⟩ v).setCell ⟨pK, 0, none⟩ k) pK T' #[k] ∧ Blk (w6.setCell ⟨pR, 0, none⟩ v) pK T' #[u'] :=
  ⟨(RB.set_ 0 v).far hne k, (KB.far hne.symm v).set_ 0 k, KB.far hne.symm v⟩
theorem below_keepsFrom {B : Nat} {W W' : World} (h : Below W.heap.size W W') : KeepsFrom B W W' := ⟨h.size, fun k o _ hk _ => (h.block k (Array.getElem?_eq_some_iff.1 hk).1).trans hk⟩
theorem kf_put (B : Nat) (w6 : World) (p q : Addr) (v k : Value) : KeepsFrom B w6 ((w6.setCell p v).setCell q k) := ((KeepsOthers.setCell _ _ _).trans (KeepsOthers.setCell _ _ _)).from _
theorem kf_end (B : Nat) (W : World) (p1 p2 p3 p4 p5 : Addr) (r j0 j1 j2 k : Value) : KeepsFrom B W (((((W.setCell p1 r).setCell p2 j0).setCell p3 j1).setCell p4 j2).setCell p5 k) := (((((KeepsOthers.setCell _ _ _).trans (KeepsOthers.setCell _ _ _)).trans (KeepsOthers.setCell _ _ _)).trans (KeepsOthers.setCell _ _ _)).trans (KeepsOthers.setCell _ _ _)).from _
theorem kp_put {Q : Nat → Prop} {W w6 : World} {p q : Nat} (h : Below W.heap.size W w6) (hQ : ∀ b, Q b → b < W.heap.size) (hp : ¬ Q p) (hq : ¬ Q q) (v k : Value) : KpJ Q W ((w6.setCell ⟨p, 0, none⟩ v).setCell ⟨q, 0, none⟩ k) := fun b hb =>
  ((Below.heap_setCell _ ⟨q, 0, none⟩ k b (fun e => hq (by rw [← show b = q from e]; exact hb))).trans (Below.heap_setCell _ ⟨p, 0, none⟩ v b (fun e => hp (by rw [← show b = p from e]; exact hb)))).trans (h.block b (hQ b hb))
theorem runB_none {id : Int} {S T : List ByteArray} {B : List Bx} (h : runB id S B = none) (hp : S <+: T) : runB id T B = none := by
  obtain ⟨U, rfl⟩ := hp
  rw [runB_app, h]; rfl

theorem own_same {w w' : World} {base : Nat} {e : TypeId} {size n : Nat} {v : Value} {xs : List Value} (h : w.ownsRow base e size v n xs) (hb : ∀ b, v.ownBlock = some b → w'.heap[b]? = w.heap[b]?) : w'.ownsRow base e size v n xs := by
  refine ⟨h.1, ?_⟩
  rcases h.2 with h | ⟨g, cap, cur, e1, e2, e3, e4⟩
  · exact .inl h
  · exact .inr ⟨g, cap, cur, e1, e2, by rw [hb g (by rw [e1]; rfl)]; exact e3, e4⟩
theorem jr_good {w w1 W : World} {D n5 c5 m1 d1 : Nat} {x1 x3 : Int} {x2 : List ByteArray} {A5 B1 : Option Addr} {O : List Bx} (hO : OwnB (w1.heap.size + 2) W (.slice A5 n5 c5) O) (hJ : w1.ownsRow (w.heap.size + 4) 9 1 (.slice B1 m1 d1) m1 (x2.map Value.string)) (hB : Below w1.heap.size w1 W)
    (hw : Below w.heap.size w w1) (hs : w.heap.size + 4 ≤ w1.heap.size) (hD : w1.heap.size ≤ D) (hK : W.heap[D]? = some (.deferred (some []))) (r j0 j1 j2 k : Value) :
    Own3M w (some (O, (x1, x2, x3))) (.returned (.tuple #[.slice A5 n5 c5, .agg #[.int .i64 x1, .slice B1 m1 d1, .int .i64 x3], .bool true])) (((((((W.setCell ⟨w.heap.size + 1, 0, none⟩ r).setCell ⟨w.heap.size + 1 + 1, 0, none⟩ j0).setCell ⟨w.heap.size + 1 + 1, 1, none⟩ j1).setCell ⟨w.heap.size + 1 + 1, 2, none⟩ j2).setCell ⟨w.heap.size + 1 + 1 + 1, 0, none⟩ k).drew).putObj D (.deferred none)) := by
  obtain ⟨F, hF⟩ : ∃ F, (((((W.setCell ⟨w.heap.size + 1, 0, none⟩ r).setCell ⟨w.heap.size + 1 + 1, 0, none⟩ j0).setCell ⟨w.heap.size + 1 + 1, 1, none⟩ j1).setCell ⟨w.heap.size + 1 + 1, 2, none⟩ j2).setCell ⟨w.heap.size + 1 + 1 + 1, 0, none⟩ k) = F := ⟨_, rfl⟩
  rw [hF]
  have hbF : Below w.heap.size w F := by rw [← hF]; exact jr_below (hw.trans (hB.mono (by omega))) (Nat.le_refl _) _ _ _ _ _
  have hWF : Below (w.heap.size + 1) W F := by
    rw [← hF]
    exact ((((((Below.refl _ W).setCell (p := ⟨w.heap.size + 1, 0, none⟩) (by show w.heap.size + 1 ≤ w.heap.size + 1; omega) _).setCell (p := ⟨w.heap.size + 1 + 1, 0, none⟩) (by show w.heap.size + 1 ≤ w.heap.size + 1 + 1; omega) _).setCell (p := ⟨w.heap.size + 1 + 1, 1, none⟩) (by show w.heap.size + 1 ≤ w.heap.size + 1 + 1; omega) _).setCell (p := ⟨w.heap.size + 1 + 1, 2, none⟩) (by show w.heap.size + 1 ≤ w.heap.size + 1 + 1; omega) _).setCell (p := ⟨w.heap.size + 1 + 1 + 1, 0, none⟩) (by show w.heap.size + 1 ≤ w.heap.size + 1 + 1 + 1; omega) _)
  have hh : ∀ q, w.heap.size + 4 ≤ q → F.heap[q]? = W.heap[q]? := fun q hq => by
    rw [← hF]
    exact ((((Below.heap_setCell _ ⟨w.heap.size + 1 + 1 + 1, 0, none⟩ k q (by show q ≠ w.heap.size + 1 + 1 + 1; omega)).trans (Below.heap_setCell _ ⟨w.heap.size + 1 + 1, 2, none⟩ j2 q (by show q ≠ w.heap.size + 1 + 1; omega))).trans (Below.heap_setCell _ ⟨w.heap.size + 1 + 1, 1, none⟩ j1 q (by show q ≠ w.heap.size + 1 + 1; omega))).trans (Below.heap_setCell _ ⟨w.heap.size + 1 + 1, 0, none⟩ j0 q (by show q ≠ w.heap.size + 1 + 1; omega))).trans (Below.heap_setCell _ ⟨w.heap.size + 1, 0, none⟩ r q (by show q ≠ w.heap.size + 1; omega))
  have hKF : F.drew.heap[D]? = some (.deferred (some [])) := (hh D (by omega)).trans hK
  have hG : F.drew.grownBy (F.drew.putObj D (.deferred none)) (some D) := grownBy_putObj' _ _ _
  have hr : ∀ r, some D = some r → ∃ o : Obj, F.drew.heap[r]? = some o ∧ o.isCells = false := fun r e => by cases e; exact ⟨_, hKF, rfl⟩
  obtain ⟨A, n, c, Y, e, h1, h2⟩ := hO
  injection e with e1 e2 e3
  subst e1 e2 e3
  have h3 : NestB (w1.heap.size + 2) F A5 n5 c5 Y := h2.kept hWF.os hWF.tape hWF.output hWF.size fun b hb => hh b (by have := (h2.lt hb).1; omega)
  have h4 : NestB (w1.heap.size + 2) F.drew A5 n5 c5 Y := h3.drewN 1
  have hJW : W.ownsRow (w.heap.size + 4) 9 1 (.slice B1 m1 d1) m1 (x2.map Value.string) := hJ.kept (row := none) (grown_of_below hB) (by cases hh : (Value.slice B1 m1 d1).ownBlock <;> simp)
  have hJF : F.drew.ownsRow (w.heap.size + 4) 9 1 (.slice B1 m1 d1) m1 (x2.map Value.string) := own_same (w' := F.drew) hJW fun b hb => hh b (hJW.lt b hb).1
  refine ⟨_, _, _, Y, _, _, _, w1.heap.size + 2, rfl, h1, by omega, h4.keepRow hG hr, own_base (hJF.kept hG ?_) (by omega), fun b e => ?_, hbF.drew.grown hG hbF.drew.size (fun q hq => by cases hq; omega)⟩
  · cases hv : (Value.slice B1 m1 d1).ownBlock with
    | none => exact .inl rfl
    | some b => exact .inr (fun e => by have := (hJ.lt b hv).2; injection e with e; omega)
  · have h6 := (hJ.lt b e).2
    omega

set_option maxHeartbeats 4000000 in
set_option maxRecDepth 100000 in
theorem i_JobRunM (A0 : Option Addr) (n0 c0 : Nat) (X : List Bx) (i d many : Int) (A : Option Addr) (n c : Nat) (L : List ByteArray) (w : World) (hX : Bxs w w.heap.size A0 n0 X) (hSX : BSmall X) (hn0 : n0 ≤ maxLen) (hL : Strs w w.heap.size A n L) (hS : Small L) (hn : n ≤ maxLen) (hnc : n ≤ c) :
    Calls Try.prog 30 #[.slice A0 n0 c0, .agg #[.int .i64 i, .slice A n c, .int .i64 d], .int .i64 many] w fun e w' => Own3M w (jRunM X (i, L, d) many) e w' := by
  have HN := hide hn
  have HN0 := hide hn0
  have hl0 := hide hX.1
  have hl := hide hL.1
  have HS := hide hS
  have HSX := hide hSX
  -- the call's own four blocks: the job, the three results
  obtain ⟨W0, hW0⟩ : ∃ W0, (((w.alloc (.cells #[.int .i64 i, .slice A n c, .int .i64 d] 28)).alloc (.cells #[.slice none 0 0] 41)).alloc (.cells #[.int .i64 0, .slice none 0 0, .int .i64 0] 28)).alloc (.cells #[.bool false] 4) = W0 := ⟨_, rfl⟩
  have hb0 : Below w.heap.size w W0 := by rw [← hW0]; exact ((((Below.refl _ _).alloc (Nat.le_refl _) _).alloc (by simp) _).alloc (by simp; omega) _).alloc (by simp; omega) _
  have hs0 : W0.heap.size = w.heap.size + 4 := by rw [← hW0]; simp
  have J0 : Blk W0 w.heap.size 28 #[.int .i64 i, .slice A n c, .int .i64 d] := by rw [← hW0]; exact (((Blk.new w _ _).alloc _).alloc _).alloc _
  have R0 : Blk W0 (w.heap.size + 1) 41 #[.slice none 0 0] := by
    rw [← hW0]
    have h := ((Blk.new (w.alloc (.cells #[.int .i64 i, .slice A n c, .int .i64 d] 28)) 41 #[.slice none 0 0]).alloc (.cells #[.int .i64 0, .slice none 0 0, .int .i64 0] 28)).alloc (.cells #[.bool false] 4)
    simp only [World.size_alloc] at h
    exact h
  have S0 : Blk W0 (w.heap.size + 1 + 1) 28 #[.int .i64 0, .slice none 0 0, .int .i64 0] := by
    rw [← hW0]
    have h := (Blk.new ((w.alloc (.cells #[.int .i64 i, .slice A n c, .int .i64 d] 28)).alloc (.cells #[.slice none 0 0] 41)) 28 #[.int .i64 0, .slice none 0 0, .int .i64 0]).alloc (.cells #[.bool false] 4)
    simp only [World.size_alloc] at h
    exact h
  have T0 : Blk W0 (w.heap.size + 1 + 1 + 1) 4 #[.bool false] := by
    rw [← hW0]
    have h := Blk.new (((w.alloc (.cells #[.int .i64 i, .slice A n c, .int .i64 d] 28)).alloc (.cells #[.slice none 0 0] 41)).alloc (.cells #[.int .i64 0, .slice none 0 0, .int .i64 0] 28)) 4 #[.bool false]
    simp only [World.size_alloc] at h
    exact h
  have hL0 := hide hL
  have HL0 := hide ((hL.below hb0).more (show w.heap.size ≤ W0.heap.size by omega))
  have HX0 := hide ((hX.below hb0).up (show w.heap.size ≤ W0.heap.size by omega))
  have HJ0 := hide J0
  have HR0 := hide R0
  have HS0 := hide S0
  have HT0 := hide T0
  have Hb0 := hide hb0
  have Hs0 := hide hs0
  have HW0 := hide hW0
  obtain ⟨⟨a0, a1, a2⟩, _⟩ := J0.cells3
  clear hL hS hb0 hs0 hX hSX hn hn0 J0 R0 S0 T0 hW0
  refine (callsIn_wide (n := 6)).1 ?_
  refine callsIn_of_wp_marks Try.func30 rfl trivial ?_ rfl
  simp only [Try.ntmps30, List.size_toArray, List.length_cons, List.length_nil, Nat.reduceAdd, Nat.reduceSub, Array.replicate_succ, Array.replicate_zero, List.push_toArray, List.append_toArray, List.nil_append, List.cons_append]
  have f1 : Fence.wide.fn 27 := trivial
  have f2 : Fence.wide.fn 36 := trivial
  have f3 : Fence.wide.fn 74 := trivial
  have f4 : Fence.wide.fn 71 := trivial
  have f5 : Fence.wide.fn 75 := trivial
  gi_wp2_with fail
  rw [HW0.out]
  refine (callsIn_wide.2 (i_JobNext i d many A n c L _ HL0.out HS.out HN.out hnc)).mono ?_
  rintro e w1 ⟨A1, n1, c1, B1, m1, d1, rfl, ownN, ownJ, hne1, hb1⟩
  have hb01 : Below w.heap.size W0 w1 := hb1.mono (by have := Hs0.out; omega)
  have J1 := HJ0.out.below hb1 (by have := Hs0.out; omega)
  have R1 := HR0.out.below hb1 (by have := Hs0.out; omega)
  have S1 := HS0.out.below hb1 (by have := Hs0.out; omega)
  have T1 := HT0.out.below hb1 (by have := Hs0.out; omega)
  have hs1 : w.heap.size + 4 ≤ w1.heap.size := by have h := hb1.size; have := Hs0.out; omega
  have Hb1 := hide (Hb0.out.trans hb01)
  have HX1 := hide (HX0.out.on hb1)
  have HJ1 := hide J1
  have HR1 := hide R1
  have HS1 := hide S1
  have HT1 := hide T1
  rw [Hs0.out] at ownN ownJ
  have OwnN := hide ownN
  have OwnJ' := hide ownJ
  obtain ⟨⟨a10, a11, a12⟩, _⟩ := J1.cells3
  clear hb1 hb01 a0 a1 a2 ownN ownJ hne1 J1 R1 S1 T1
  cases hj : jNextM (i, L, d) many with
  | none =>
    have H : Hid (jRunM X (i, L, d) many = none) := jRun_1 hj
    have HJ := hide hj
    clear hj
    simp only [Option.getD_none, jb0, Option.isSome_none]
    obtain ⟨W2, hW2⟩ : ∃ W2, (w1.alloc (.cells #[.int .i64 0, .slice B1 m1 d1, .int .i64 0] 28)).alloc (.cells #[.bool false] 4) = W2 := ⟨_, rfl⟩
    have HW2 := hide hW2
    have hbW2 : Below w1.heap.size w1 W2 := by rw [← hW2]; exact ((Below.refl _ _).alloc (Nat.le_refl _) _).alloc (by simp) _
    have hsW2 : W2.heap.size = w1.heap.size + 2 := by rw [← hW2]; simp
    have J2 := HJ1.out.below hbW2 (by omega)
    have R2 := HR1.out.below hbW2 (by omega)
    have S2 := HS1.out.below hbW2 (by omega)
    have T2 := HT1.out.below hbW2 (by omega)
    have B2 : Blk W2 w1.heap.size 28 #[.int .i64 0, .slice B1 m1 d1, .int .i64 0] := by rw [← hW2]; exact (Blk.new w1 _ _).alloc _
    have K2 : Blk W2 (w1.heap.size + 1) 4 #[.bool false] := by
      rw [← hW2]
      have h := Blk.new (w1.alloc (.cells #[.int .i64 0, .slice B1 m1 d1, .int .i64 0] 28)) 4 #[.bool false]
      rw [World.size_alloc] at h
      exact h
    have HJ2 := hide J2
    have HR2 := hide R2
    have HS2 := hide S2
    have HT2 := hide T2
    have HB2 := hide B2
    have HK2 := hide K2
    have Hb2 := hide hbW2
    have Hs2 := hide hsW2
    have Hbw2 := hide (Hb1.out.trans (hbW2.mono (by omega)))
    obtain ⟨r20, r2f⟩ := blk_one R2
    obtain ⟨⟨s20, s21, s22⟩, s23, s24, s25⟩ := S2.cells3
    obtain ⟨t20, t2f⟩ := blk_one T2
    rw [← hW2] at r20 r2f s20 s21 s22 s23 s24 s25 t20 t2f
    clear hW2 hbW2 hsW2 J2 R2 S2 T2 B2 K2
    have HE := hide (jr_end HR2.out HS2.out HT2.out (.slice none 0 0) (.int .i64 0) (.slice none 0 0) (.int .i64 0) (.bool false))
    have HBe := hide (jr_below Hbw2.out (Nat.le_refl _) (.slice none 0 0) (.int .i64 0) (.slice none 0 0) (.int .i64 0) (.bool false))
    gi_wp2_with fail
    rw [HW2.out]
    obtain ⟨he1, he2, he3⟩ := HE.out
    obtain ⟨⟨e1, e2, e3⟩, _⟩ := he2.cells3
    exact ⟨.tuple #[.slice none 0 0, .agg #[.int .i64 0, .slice none 0 0, .int .i64 0], .bool false], by simp [results, Try.results30, go_sem, (blk_one he1).1, e1, e2, e3, (blk_one he3).1], by rw [H.out]; exact jr_none HBe.out⟩
  | some r =>
    obtain ⟨N, x1, x2, x3⟩ := r
    have HJ := hide (jNext_some hj)
    have Hj := hide hj
    have OwnN2 : Hid (w1.ownsRow (w.heap.size + 4) 9 1 (.slice A1 n1 c1) n1 (N.map Value.string)) := by have h := OwnN.out; rw [hj] at h; exact h
    have OwnJ2 : Hid (w1.ownsRow (w.heap.size + 4) 9 1 (.slice B1 m1 d1) m1 (x2.map Value.string)) := by have h := OwnJ'.out; rw [hj] at h; exact h
    clear OwnN OwnJ' hj
    simp only [Option.getD_some, Option.isSome_some]
    obtain ⟨W2, hW2⟩ : ∃ W2, (w1.alloc (.cells #[.int .i64 x1, .slice B1 m1 d1, .int .i64 x3] 28)).alloc (.cells #[.bool true] 4) = W2 := ⟨_, rfl⟩
    have HW2 := hide hW2
    have hbW2 : Below w1.heap.size w1 W2 := by rw [← hW2]; exact ((Below.refl _ _).alloc (Nat.le_refl _) _).alloc (by simp) _
    have hsW2 : W2.heap.size = w1.heap.size + 2 := by rw [← hW2]; simp
    have J2 := HJ1.out.below hbW2 (by omega)
    have R2 := HR1.out.below hbW2 (by omega)
    have S2 := HS1.out.below hbW2 (by omega)
    have T2 := HT1.out.below hbW2 (by omega)
    have B2 : Blk W2 w1.heap.size 28 #[.int .i64 x1, .slice B1 m1 d1, .int .i64 x3] := by rw [← hW2]; exact (Blk.new w1 _ _).alloc _
    have K2 : Blk W2 (w1.heap.size + 1) 4 #[.bool true] := by
      rw [← hW2]
      have h := Blk.new (w1.alloc (.cells #[.int .i64 x1, .slice B1 m1 d1, .int .i64 x3] 28)) 4 #[.bool true]
      rw [World.size_alloc] at h
      exact h
    have HJ2 := hide J2
    have HR2 := hide R2
    have HS2 := hide S2
    have HT2 := hide T2
    have HB2 := hide B2
    have HK2 := hide K2
    have Hb2 := hide hbW2
    have Hs2 := hide hsW2
    have Hbw2 := hide (Hb1.out.trans (hbW2.mono (by omega)))
    obtain ⟨r20, r2f⟩ := blk_one R2
    obtain ⟨⟨s20, s21, s22⟩, s23, s24, s25⟩ := S2.cells3
    obtain ⟨t20, t2f⟩ := blk_one T2
    rw [← hW2] at r20 r2f s20 s21 s22 s23 s24 s25 t20 t2f
    clear hW2 hbW2 hsW2 J2 R2 S2 T2 B2 K2
    have HXW := hide (HX1.out.on Hb2.out)
    gi_wp2_with fail
    rw [HW2.out]
    refine (callsIn_wide.2 (i_Bs A0 n0 c0 X _ HXW.out HSX.out HN0.out)).mono ?_
    rintro e w3 ⟨rfl, hb3⟩
    have hs3 : w1.heap.size + 2 ≤ w3.heap.size := by have h := hb3.size; have := Hs2.out; omega
    have hb23 : Below (w1.heap.size + 2) W2 w3 := hb3.mono (by have := Hs2.out; omega)
    have HJ3 := hide (HJ2.out.below hb23 (by omega))
    have HR3 := hide (HR2.out.below hb23 (by omega))
    have HS3 := hide (HS2.out.below hb23 (by omega))
    have HT3 := hide (HT2.out.below hb23 (by omega))
    have HB3 := hide (HB2.out.below hb23 (by omega))
    have HK3 := hide (HK2.out.below hb23 (by omega))
    have Hb3 := hide (Hb2.out.trans (hb23.mono (by omega)))
    have Hbw3 := hide (Hb1.out.trans (Hb3.out.mono (by omega)))
    have HX3 := hide (HXW.out.on hb3)
    clear hb3 hb23 HR2 HS2 HT2 HB2 HK2 HJ2 r20 r2f s20 s21 s22 s23 s24 s25 t20 t2f
    cases hB : bxsB X
    · have H : Hid (jRunM X (i, L, d) many = none) := jRun_2 hB
      clear hB
      obtain ⟨r20, r2f⟩ := blk_one HR3.out
      obtain ⟨⟨s20, s21, s22⟩, s23, s24, s25⟩ := HS3.out.cells3
      obtain ⟨t20, t2f⟩ := blk_one HT3.out
      have HE := hide (jr_end HR3.out HS3.out HT3.out (.slice none 0 0) (.int .i64 0) (.slice none 0 0) (.int .i64 0) (.bool false))
      have HBe := hide (jr_below Hbw3.out (Nat.le_refl _) (.slice none 0 0) (.int .i64 0) (.slice none 0 0) (.int .i64 0) (.bool false))
      gi_wp2_with fail
      obtain ⟨he1, he2, he3⟩ := HE.out
      obtain ⟨⟨e1, e2, e3⟩, _⟩ := he2.cells3
      exact ⟨.tuple #[.slice none 0 0, .agg #[.int .i64 0, .slice none 0 0, .int .i64 0], .bool false], by simp [results, Try.results30, go_sem, (blk_one he1).1, e1, e2, e3, (blk_one he3).1], by rw [H.out]; exact jr_none HBe.out⟩
    have HB := hide hB
    have hn10 : n0 ≤ 10 := by have h := bxsB_10 hB; have := hl0.out; omega
    clear hB
    gi_wp2_with fail
    refine (callsIn_wide.2 (copy_any A0 n0 c0 X w3 HX3.out hn10 (fun a ha => idsB_6 (bxsB_bx HB.out ha).2.1))).mono ?_
    rintro e w4 ⟨g4, Y4, rfl, hY4, hN4, hb4⟩
    have hs4 := hb4.size
    have HJ4 := HJ3.out.below hb4 (by omega)
    have HR4 := hide (HR3.out.below hb4 (by omega))
    have HS4 := hide (HS3.out.below hb4 (by omega))
    have HT4 := hide (HT3.out.below hb4 (by omega))
    have HB4 := hide (HB3.out.below hb4 (by omega))
    have HK4 := hide (HK3.out.below hb4 (by omega))
    have Hb4 := hide (Hb3.out.trans (hb4.mono (by omega)))
    have HO4 : Hid (OwnB (w1.heap.size + 2) w4 (.slice (some ⟨g4, 0, none⟩) n0 n0) X) := ⟨_, _, _, Y4, rfl, hY4, hN4.down hs3⟩
    have hbW5 : Below w4.heap.size w4 (w4.alloc (.cells #[.slice (some ⟨g4, 0, none⟩) n0 n0] 41)) := (Below.refl _ _).alloc (Nat.le_refl _) _
    obtain ⟨⟨a50, a51, a52⟩, _⟩ := (HJ4.below hbW5 (by omega)).cells3
    clear hb4 hY4 hN4 HJ3 HR3 HS3 HT3 HB3 HK3 hbW5
    gi_wp2_with fail
    refine (callsIn_wide.2 (i_nextJ i d many A n c _)).mono ?_
    rintro e w6' ⟨rfl, rfl⟩
    gi_wp2_with fail
    have hv := HJ.out.v
    have hm0 : 0 ≤ many := HJ.out.m
    obtain ⟨dn, rfl⟩ : ∃ dn : Nat, d = (dn : Int) := ⟨d.toNat, by have := (jbB_iff.1 hv).2.2.1; simp only at this; omega⟩
    obtain ⟨NN, hNN⟩ := nmS_of (L := N) (fun s hs => nsB_at (jbB_iff.1 hv).2.1 (jNms_mem (HJ.out.nm ▸ hs)))
    have hNN2 : NN.map (fun s => s.1) = jNms (i, L, (dn : Int)) many := hNN.trans HJ.out.nm
    obtain ⟨W6, hW6⟩ : ∃ W6, ((w4.alloc (.cells #[.slice (some ⟨g4, 0, none⟩) n0 n0] 41)).alloc (.cells #[.int .i64 i, .slice A n c, .int .i64 (dn : Int)] 28)).alloc (.cells #[.int .i64 many] 3) = W6 := ⟨_, rfl⟩
    rw [hW6]
    have hb6 : Below w4.heap.size w4 W6 := by rw [← hW6]; exact (((Below.refl _ _).alloc (Nat.le_refl _) _).alloc (by simp) _).alloc (by simp; omega) _
    have hs6 : W6.heap.size = w4.heap.size + 3 := by rw [← hW6]; simp
    have P6 : Blk W6 w4.heap.size 41 #[.slice (some ⟨g4, 0, none⟩) n0 n0] := by rw [← hW6]; exact ((Blk.new w4 _ _).alloc _).alloc _
    have C6 : Blk W6 (w4.heap.size + 1) 28 #[.int .i64 i, .slice A n c, .int .i64 (dn : Int)] := by
      rw [← hW6]
      have h := (Blk.new (w4.alloc (.cells #[.slice (some ⟨g4, 0, none⟩) n0 n0] 41)) 28 #[.int .i64 i, .slice A n c, .int .i64 (dn : Int)]).alloc (.cells #[.int .i64 many] 3)
      rw [World.size_alloc] at h
      exact h
    have M6 : Blk W6 (w4.heap.size + 1 + 1) 3 #[.int .i64 many] := by
      rw [← hW6]
      have h := Blk.new ((w4.alloc (.cells #[.slice (some ⟨g4, 0, none⟩) n0 n0] 41)).alloc (.cells #[.int .i64 i, .slice A n c, .int .i64 (dn : Int)] 28)) 3 #[.int .i64 many]
      simp only [World.size_alloc] at h
      exact h
    have hb16 : Below w1.heap.size w1 W6 := Hb4.out.trans (hb6.mono (by omega))
    have hbw6 : Below w.heap.size w W6 := Hb1.out.trans (hb16.mono (by omega))
    obtain ⟨⟨_, t1, t2⟩, _⟩ := C6.cells3
    have hseq := nx_stops (fun s : NmS => s.1) NN 5 (by omega) (w4.heap.size + 1 + 1) (w4.heap.size + 1) w.heap.size (fun b => b < w.heap.size ∨ b = w4.heap.size + 1) i many dn n c A L hNN2 W6 (hL0.out.below hbw6) hv hm0 (blk_one M6).1 t1 t2 (.inr rfl) (fun g hg => .inl hg) (by omega) (by omega) (by omega)
    have hQ6 : ∀ b, (b < w.heap.size ∨ b = w4.heap.size + 1) → b < W6.heap.size := fun b hb => by omega
    have HO6 : OwnB (w1.heap.size + 2) W6 (.slice (some ⟨g4, 0, none⟩) n0 n0) X := HO4.out.below hb6
    refine wpIn_rangeFunc_ownG rfl (by omega) (gf := 107) (lb := #[.pointer (some ⟨w4.heap.size + 1 + 1, 0, none⟩), .pointer (some ⟨w4.heap.size + 1, 0, none⟩)]) rfl trivial (enters_of Try.func107 (by kernel_rfl) rfl)
      hseq kpJ_t (kpJ_b hQ6) (Below.refl _ _) (fun _ => rfl)
      (fun pre W => JrI w1 w4.heap.size i X x1 x3 (.slice B1 m1 d1) (pre.map fun s => s.1) W ∧ Below w1.heap.size w1 W)
      (fun cc pre W => JrX w.heap.size i X cc (pre.map fun s => s.1) W ∧ Below w.heap.size w W)
      (OwnFrom.and (Own.from (jrI_own _ _ _ _ _ _ _) _) (ownFrom_below (Nat.le_refl _) (by omega)))
      (fun cc => OwnFrom.and (Own.from (jrX_own _ _ _ cc) _) (ownFrom_below (Nat.le_refl _) (by omega)))
      ⟨⟨⟨_, _, _, _, P6, HO6, rfl, HB.out⟩, HB4.out.below hb6 (by omega), ⟨_, HK4.out.below hb6 (by omega)⟩, by omega⟩, hb16⟩
      (fun x => { tmps := #[.slice A0 n0 c0, .agg #[.int .i64 i, .slice A n c, .int .i64 (dn : Int)], .int .i64 many, undef, .pointer (some ⟨w.heap.size, 0, none⟩), undef, .pointer (some ⟨w.heap.size + 1, 0, none⟩), .pointer (some ⟨w.heap.size + 1 + 1, 0, none⟩), .pointer (some ⟨w.heap.size + 1 + 1 + 1, 0, none⟩), .slice A1 n1 c1, .pointer (some ⟨w1.heap.size, 0, none⟩), .pointer (some ⟨w1.heap.size + 1, 0, none⟩), .pointer (some ⟨w4.heap.size, 0, none⟩), .string x.1,
        .tuple #[.slice A1 n1 c1, .agg #[.int .i64 x1, .slice B1 m1 d1, .int .i64 x3], .bool true], .agg #[.int .i64 i, .slice A n c, .int .i64 (dn : Int)], .int .i64 many, .tuple #[.slice A1 n1 c1, .agg #[.int .i64 x1, .slice B1 m1 d1, .int .i64 x3], .bool true], .slice A1 n1 c1, .agg #[.int .i64 x1, .slice B1 m1 d1, .int .i64 x3], .bool true, .bool true, .bool false, .bool false, .slice A0 n0 c0, .bool true, .bool false, .bool false, undef, .slice A0 n0 c0, .slice (some ⟨g4, 0, none⟩) n0 n0, .agg #[.int .i64 i, .slice A n c, .int .i64 (dn : Int)], .int .i64 many,
        .func (.func 107) #[] #[.pointer (some ⟨w4.heap.size + 1 + 1, 0, none⟩), .pointer (some ⟨w4.heap.size + 1, 0, none⟩)], .string x.1, undef, undef, undef, undef, undef, undef, undef, undef, undef, undef, undef, undef, undef], defers := [] }) ?assign ?body ?done ?stop
    case assign =>
      intro l x W K hK
      gi_wp2
      exact hK
    case body =>
      clear hseq hQ6 HO6 hb6 hb16 hbw6 P6 C6 M6 t1 t2 hW6 hNN hNN2 hv
      have Hs6 := hide hs6
      clear hs6
      rintro l pre x W ⟨⟨⟨A5, n5, c5, O, bx, hO, hrun, hval⟩, bh, ⟨bb, kb⟩, hsz⟩, hB⟩ hlt
      obtain ⟨A', n', c', Y5, e5, hY5, hN5⟩ := hO
      injection e5 with e6 e7 e8
      subst e6 e7 e8
      obtain ⟨⟨j0, j1, j2⟩, _⟩ := (HJ1.out.below hB (by omega)).cells3
      obtain ⟨b0, b1⟩ := blk_one bx
      have HXW : Hid (Bxs W W.heap.size A5 n5 O) := by rw [← hY5]; exact hN5.bxs
      have hn5 : n5 ≤ maxLen := Nat.le_trans (own_cap hN5.row).1 (own_cap hN5.row).2
      have HSO := hide (bxs_small' hval)
      have HBW := hide hB
      have Hbx := hide bx
      have Hbh := hide bh
      have Hkb := hide kb
      have Hrun := hide hrun
      have hne : w4.heap.size ≠ w1.heap.size + 1 := by omega
      have Hne := hide hne
      clear hY5 hN5 hval hB bx bh kb hrun hne
      cases hp : bsPutM O x.1 i with
      | none =>
        have H : Hid (runB i ((pre ++ [x]).map fun s => s.1) X = none) := by show _ = _; rw [List.map_append, List.map_cons, List.map_nil, runB_snoc, Hrun.out]; exact hp
        have HP := hide hp
        clear hp
        gi_wp2_with fail
        refine (CallsIn.inRound l (callsIn_wide.2 (i_BoxesPut A5 n5 c5 O x.1 i W HXW.out HSO.out hn5 x.2))).mono ?_
        rintro e w7 ⟨v7, rfl, hown7, hb7⟩
        rw [HP.out] at hown7 ⊢
        obtain ⟨A7, n7, c7, Y7, rfl, hY7, hN7⟩ := hown7
        have hsz7 := hb7.size
        have bx7 := Hbx.out.below hb7 (by omega)
        have kb7 := Hkb.out.below hb7 (by omega)
        obtain ⟨hp1, hp2, hp3⟩ := jr_put Hne.out bx7 kb7 (.slice A7 n7 c7) (.bool false)
        obtain ⟨q0, q1⟩ := blk_one bx7
        obtain ⟨q2, q3⟩ := blk_one hp3
        obtain ⟨q4, q5⟩ := blk_one hp2
        have HZ8 := hide (((HBW.out.trans (hb7.mono (by omega))).setCell (p := ⟨w4.heap.size, 0, none⟩) (show w1.heap.size ≤ w4.heap.size by omega) (.slice A7 n7 c7)).setCell (p := ⟨w1.heap.size + 1, 0, none⟩) (show w1.heap.size ≤ w1.heap.size + 1 by omega) (.bool false))
        have HKf := hide ((below_keepsFrom hb7).trans (kf_put W6.heap.size w7 ⟨w4.heap.size, 0, none⟩ ⟨w1.heap.size + 1, 0, none⟩ (.slice A7 n7 c7) (.bool false)))
        have hp1 := hide hp1
        have hp2 := hide hp2
        clear bx7 kb7 hp3
        have R8 := (((HR1.out.below HBW.out (by omega)).below hb7 (by omega)).far (p := ⟨w4.heap.size, 0, none⟩) (show w.heap.size + 1 ≠ w4.heap.size by omega) (.slice A7 n7 c7)).far (p := ⟨w1.heap.size + 1, 0, none⟩) (show w.heap.size + 1 ≠ w1.heap.size + 1 by omega) (.bool false)
        have S8 := (((HS1.out.below HBW.out (by omega)).below hb7 (by omega)).far (p := ⟨w4.heap.size, 0, none⟩) (show w.heap.size + 1 + 1 ≠ w4.heap.size by omega) (.slice A7 n7 c7)).far (p := ⟨w1.heap.size + 1, 0, none⟩) (show w.heap.size + 1 + 1 ≠ w1.heap.size + 1 by omega) (.bool false)
        have T8 := (((HT1.out.below HBW.out (by omega)).below hb7 (by omega)).far (p := ⟨w4.heap.size, 0, none⟩) (show w.heap.size + 1 + 1 + 1 ≠ w4.heap.size by omega) (.slice A7 n7 c7)).far (p := ⟨w1.heap.size + 1, 0, none⟩) (show w.heap.size + 1 + 1 + 1 ≠ w1.heap.size + 1 by omega) (.bool false)
        obtain ⟨r8, r9⟩ := blk_one R8
        obtain ⟨⟨s80, s81, s82⟩, s83, s84, s85⟩ := S8.cells3
        obtain ⟨t8, t9⟩ := blk_one T8
        have HE := hide (jr_end R8 S8 T8 (.slice none 0 0) (.int .i64 0) (.slice none 0 0) (.int .i64 0) (.bool false))
        have HBe := hide (jr_below (Hb1.out.trans (HZ8.out.mono (by omega))) (Nat.le_refl _) (.slice none 0 0) (.int .i64 0) (.slice none 0 0) (.int .i64 0) (.bool false))
        have HKe := hide (HKf.out.trans (kf_end W6.heap.size _ ⟨w.heap.size + 1, 0, none⟩ ⟨w.heap.size + 1 + 1, 0, none⟩ ⟨w.heap.size + 1 + 1, 1, none⟩ ⟨w.heap.size + 1 + 1, 2, none⟩ ⟨w.heap.size + 1 + 1 + 1, 0, none⟩ (.slice none 0 0) (.int .i64 0) (.slice none 0 0) (.int .i64 0) (.bool false)))
        clear R8 S8 T8
        gi_wp2_with fail
        exact ⟨HKe.out, ⟨rfl, H.out, HE.out.1, HE.out.2.1, HE.out.2.2⟩, HBe.out⟩
      | some Y =>
        have H : Hid (runB i ((pre ++ [x]).map fun s => s.1) X = some Y) := by show _ = _; rw [List.map_append, List.map_cons, List.map_nil, runB_snoc, Hrun.out]; exact hp
        have HV := hide (bsPutM_some hp).vy
        have HP := hide hp
        clear hp
        gi_wp2_with fail
        refine (CallsIn.inRound l (callsIn_wide.2 (i_BoxesPut A5 n5 c5 O x.1 i W HXW.out HSO.out hn5 x.2))).mono ?_
        rintro e w7 ⟨v7, rfl, hown7, hb7⟩
        rw [HP.out] at hown7 ⊢
        obtain ⟨A7, n7, c7, Y7, rfl, hY7, hN7⟩ := hown7
        have hsz7 := hb7.size
        have bx7 := Hbx.out.below hb7 (by omega)
        have kb7 := Hkb.out.below hb7 (by omega)
        obtain ⟨hp1, hp2, hp3⟩ := jr_put Hne.out bx7 kb7 (.slice A7 n7 c7) (.bool true)
        obtain ⟨q0, q1⟩ := blk_one bx7
        obtain ⟨q2, q3⟩ := blk_one hp3
        obtain ⟨q4, q5⟩ := blk_one hp2
        have HZ8 := hide (((HBW.out.trans (hb7.mono (by omega))).setCell (p := ⟨w4.heap.size, 0, none⟩) (show w1.heap.size ≤ w4.heap.size by omega) (.slice A7 n7 c7)).setCell (p := ⟨w1.heap.size + 1, 0, none⟩) (show w1.heap.size ≤ w1.heap.size + 1 by omega) (.bool true))
        have HKf := hide ((below_keepsFrom hb7).trans (kf_put W6.heap.size w7 ⟨w4.heap.size, 0, none⟩ ⟨w1.heap.size + 1, 0, none⟩ (.slice A7 n7 c7) (.bool true)))
        have hp1 := hide hp1
        have hp2 := hide hp2
        clear bx7 kb7 hp3
        have HN8 := hide (((hN7.but (g := w4.heap.size) (But.set_ (B := w7.heap.size) _ 0 (.slice A7 n7 c7)) (by omega)).but (g := w1.heap.size + 1) (But.set_ _ 0 (.bool true)) (by omega)).down (show w1.heap.size + 2 ≤ W.heap.size by omega))
        have HB8 := hide (((Hbh.out.below hb7 (by omega)).far (p := ⟨w4.heap.size, 0, none⟩) (show w1.heap.size ≠ w4.heap.size by omega) (.slice A7 n7 c7)).far (p := ⟨w1.heap.size + 1, 0, none⟩) (show w1.heap.size ≠ w1.heap.size + 1 by omega) (.bool true))
        have HS8 : Hid (w4.heap.size + 3 ≤ ((w7.setCell ⟨w4.heap.size, 0, none⟩ (.slice A7 n7 c7)).setCell ⟨w1.heap.size + 1, 0, none⟩ (.bool true)).heap.size) := by show _ ≤ _; have := hb7.size; simp; omega
        have HKp := hide (kp_put (Q := fun b => b < w.heap.size ∨ b = w4.heap.size + 1) (p := w4.heap.size) (q := w1.heap.size + 1) hb7 (fun b hb => by omega) (by omega) (by omega) (.slice A7 n7 c7) (.bool true))
        have HY7 := hide hY7
        clear hN7 hY7
        gi_wp2_with fail
        exact ⟨HKf.out, HKp.out, ⟨⟨A7, n7, c7, Y, hp1.out, ⟨A7, n7, c7, Y7, rfl, HY7.out, HN8.out⟩, H.out, HV.out⟩, HB8.out, ⟨_, hp2.out⟩, HS8.out⟩, HZ8.out⟩
    case done =>
      clear hseq hQ6 HO6 hb6 hb16 hbw6 P6 C6 M6 t1 t2 hW6 hNN2 hv
      have HNN := hide hNN
      have Hs6 := hide hs6
      clear hNN hs6
      rintro D ys W hD hys ⟨⟨⟨A5, n5, c5, O, bx, hO, hrun, hval⟩, bh, ⟨bb, kb⟩, hsz⟩, hB⟩ hK
      have H : Hid (jRunM X (i, L, (dn : Int)) many = some (O, (x1, x2, x3))) := by
        rw [hys, HNN.out] at hrun
        show _ = _; rw [jRun_3 Hj.out HB.out, hrun]; rfl
      have hD2 : w4.heap.size + 3 ≤ D := by have := Hs6.out; omega
      have HO := hide hO
      have HK := hide hK
      have HBW := hide hB
      have RW := HR1.out.below hB (by omega)
      have SW := HS1.out.below hB (by omega)
      have TW := HT1.out.below hB (by omega)
      obtain ⟨b0, b1⟩ := blk_one bx
      obtain ⟨⟨h0, h1, h2⟩, _⟩ := bh.cells3
      obtain ⟨r8, r9⟩ := blk_one RW
      obtain ⟨⟨s80, s81, s82⟩, s83, s84, s85⟩ := SW.cells3
      obtain ⟨t8, t9⟩ := blk_one TW
      have HRW := hide RW
      have HSW := hide SW
      have HTW := hide TW
      clear hrun hval hys hO hK hB RW SW TW bx bh kb hD
      gi_wp2_with fail
      gi_region
      all_goals
        gi_wp2_with fail
        obtain ⟨he1, he2, he3⟩ := jr_end HRW.out HSW.out HTW.out (.slice A5 n5 c5) (.int .i64 x1) (.slice B1 m1 d1) (.int .i64 x3) (.bool true)
        obtain ⟨F, hF⟩ : ∃ F, (((((W.setCell ⟨w.heap.size + 1, 0, none⟩ (.slice A5 n5 c5)).setCell ⟨w.heap.size + 1 + 1, 0, none⟩ (.int .i64 x1)).setCell ⟨w.heap.size + 1 + 1, 1, none⟩ (.slice B1 m1 d1)).setCell ⟨w.heap.size + 1 + 1, 2, none⟩ (.int .i64 x3)).setCell ⟨w.heap.size + 1 + 1 + 1, 0, none⟩ (.bool true)) = F := ⟨_, rfl⟩
        have HG := jr_good (w := w) (w1 := w1) (D := D) (x1 := x1) (x3 := x3) HO.out OwnJ2.out HBW.out Hb1.out hs1 (by omega) HK.out (.slice A5 n5 c5) (.int .i64 x1) (.slice B1 m1 d1) (.int .i64 x3) (.bool true)
        have hKF : F.drew.heap[D]? = some (.deferred (some [])) := by
          rw [← hF]
          exact (((((Below.heap_setCell _ ⟨w.heap.size + 1 + 1 + 1, 0, none⟩ _ D (by show D ≠ w.heap.size + 1 + 1 + 1; omega)).trans (Below.heap_setCell _ ⟨w.heap.size + 1 + 1, 2, none⟩ _ D (by show D ≠ w.heap.size + 1 + 1; omega))).trans (Below.heap_setCell _ ⟨w.heap.size + 1 + 1, 1, none⟩ _ D (by show D ≠ w.heap.size + 1 + 1; omega))).trans (Below.heap_setCell _ ⟨w.heap.size + 1 + 1, 0, none⟩ _ D (by show D ≠ w.heap.size + 1 + 1; omega))).trans (Below.heap_setCell _ ⟨w.heap.size + 1, 0, none⟩ _ D (by show D ≠ w.heap.size + 1; omega))).trans HK.out
        rw [hF] at he1 he2 he3 HG ⊢
        have g1 : Blk (F.drew.putObj D (.deferred none)) (w.heap.size + 1) 41 #[.slice A5 n5 c5] := (World.putObj_heap_other (by omega)).trans he1
        have g2 : Blk (F.drew.putObj D (.deferred none)) (w.heap.size + 1 + 1) 28 #[.int .i64 x1, .slice B1 m1 d1, .int .i64 x3] := (World.putObj_heap_other (by omega)).trans he2
        have g3 : Blk (F.drew.putObj D (.deferred none)) (w.heap.size + 1 + 1 + 1) 4 #[.bool true] := (World.putObj_heap_other (by omega)).trans he3
        obtain ⟨⟨e1, e2, e3⟩, _⟩ := g2.cells3
        refine ⟨by simp, .inl ⟨_, _, rfl, run_takeDeferred hKF, ?_⟩⟩
        exact ⟨.tuple #[.slice A5 n5 c5, .agg #[.int .i64 x1, .slice B1 m1 d1, .int .i64 x3], .bool true], by simp [results, Try.results30, go_sem, (blk_one g1).1, e1, e2, e3, (blk_one g3).1], by rw [H.out]; exact HG⟩
    case stop =>
      clear hseq hQ6 HO6 hb6 hb16 hbw6 P6 C6 M6 t1 t2 hW6 hNN2 hv
      rintro D cc pre W hD hpre ⟨⟨rfl, hno, hr, hs, ht⟩, hB⟩ hK
      have H : jRunM X (i, L, (dn : Int)) many = none := by
        have h := runB_none hno (hpre.map fun s => s.1)
        rw [hNN] at h
        rw [jRun_3 Hj.out HB.out, h]; rfl
      have g1 : Blk (W.putObj D (.deferred none)) (w.heap.size + 1) 41 #[.slice none 0 0] := (World.putObj_heap_other (by omega)).trans hr
      have g2 : Blk (W.putObj D (.deferred none)) (w.heap.size + 1 + 1) 28 #[.int .i64 0, .slice none 0 0, .int .i64 0] := (World.putObj_heap_other (by omega)).trans hs
      have g3 : Blk (W.putObj D (.deferred none)) (w.heap.size + 1 + 1 + 1) 4 #[.bool false] := (World.putObj_heap_other (by omega)).trans ht
      have hBe : Below w.heap.size w (W.putObj D (.deferred none)) := hB.grown (grownBy_putObj' _ _ _) hB.size (fun q hq => by cases hq; omega)
      obtain ⟨⟨e1, e2, e3⟩, _⟩ := g2.cells3
      gi_wp2_with fail
      refine ⟨by simp, .inl ⟨_, _, rfl, run_takeDeferred hK, ?_⟩⟩
      exact ⟨.tuple #[.slice none 0 0, .agg #[.int .i64 0, .slice none 0 0, .int .i64 0], .bool false], by simp [results, Try.results30, go_sem, (blk_one g1).1, e1, e2, e3, (blk_one g3).1], by rw [H]; exact jr_none hBe⟩

theorem i_JobRun (A0 : Option Addr) (n0 c0 : Nat) (X : List Bx) (i d many : Int) (A : Option Addr) (n c : Nat) (L : List ByteArray) (w : World) (hX : Bxs w w.heap.size A0 n0 X) (hSX : BSmall X) (hn0 : n0 ≤ maxLen) (hL : Strs w w.heap.size A n L) (hS : Small L) (hn : n ≤ maxLen) (hnc : n ≤ c) :
    Calls Try.prog 30 #[.slice A0 n0 c0, .agg #[.int .i64 i, .slice A n c, .int .i64 d], .int .i64 many] w fun e w' => Own3B w (jRunM X (i, L, d) many) e w' :=
  (i_JobRunM A0 n0 c0 X i d many A n c L w hX hSX hn0 hL hS hn hnc).mono fun _ _ h => own3_of_M h
end Go.Proofs.Ytimpmlmkhjeajaa

/- The program's four functions of jobs: JobValid, JobNew, JobNext, JobRun. -/
