/- Texts joined: DrawA, DrawA2, DrawA3, DrawA4, LFof. -/
import Derived.Test.YtimpmlmkhjeajaaZc
import Derived.Deep.RegionLaw
import Derived.Deep.DeepMust
import Derived.Outline
import Derived.Deep.RegionWith
import Derived.Test.YtimpmlmkhjeajaaZd

/- Drawing accounts: l91Accounts. -/
set_option linter.unusedVariables false
set_option linter.unusedSimpArgs false
namespace Go.Proofs.Ytimpmlmkhjeajaa
open Go.RowKit

def tinyStr : Value → Bool
  | .string s => decide (s.size ≤ 3)
  | _ => false
theorem tinyStr_of {v : Value} (h : tinyStr v = true) : ∃ s : ByteArray, s.size ≤ 3 ∧ v = .string s := by
  cases v <;> simp [tinyStr] at h
  exact ⟨_, h, rfl⟩
/-- Block b holds N strings of at most three letters. -/
def Lit3 (w : World) (b N : Nat) : Prop := ∃ cs : Array Value, Blk w b 9 cs ∧ cs.size = N ∧ cs.toList.all tinyStr = true
theorem Lit3.cell {w : World} {b N k : Nat} (h : Lit3 w b N) (hk : k < N) : ∃ s : ByteArray, s.size ≤ 3 ∧ w.cell? ⟨b, k, none⟩ = some (.string s) := by
  obtain ⟨cs, hb, hn, ha⟩ := h
  obtain ⟨s, h5, hs⟩ := tinyStr_of (List.all_eq_true.1 ha (cs[k]'(by omega)) (by simp))
  exact ⟨s, h5, by rw [hb.cell, Array.getElem?_eq_getElem (by omega), hs]⟩
theorem Lit3.but {B b N g : Nat} {w w' : World} (h : Lit3 w b N) (hb : But B g w w') (hB : b < B) (hne : b ≠ g) : Lit3 w' b N := by
  obtain ⟨cs, h1, h2, h3⟩ := h
  exact ⟨cs, (hb.block b hB hne).trans h1, h2, h3⟩
theorem Lit3.alloc {b N : Nat} {w : World} (h : Lit3 w b N) (o : Obj) : Lit3 (w.alloc o) b N := by
  obtain ⟨cs, h1, h2, h3⟩ := h
  exact ⟨cs, h1.alloc o, h2, h3⟩

/-- What is drawn is small. -/
def ADrawn (M : Nat) (X : List Acc) : Prop := X.length ≤ M ∧ ∀ a ∈ X, a.1.size ≤ 3 ∧ Short 6 a.2
theorem ADrawn.snoc {M : Nat} {X : List Acc} {nm : ByteArray} {F : List ByteArray} (h : ADrawn M X) (hn : nm.size ≤ 3) (hF : Short 6 F) : ADrawn (M + 1) (X ++ [(nm, F)]) := by
  refine ⟨by have := h.1; simp; omega, fun a ha => ?_⟩
  rcases List.mem_append.1 ha with h1 | h1
  · exact h.2 a h1
  · rw [List.mem_singleton.1 h1]; exact ⟨hn, hF⟩
theorem ADrawn.more {M M' : Nat} {X : List Acc} (h : ADrawn M X) (hm : M ≤ M') : ADrawn M' X := ⟨by have := h.1; omega, h.2⟩
theorem ADrawn.small {M : Nat} {X : List Acc} (h : ADrawn M X) : ASmall X := fun a ha => by
  have h1 := h.2 a ha
  refine ⟨by have := h1.1; unfold maxLen; omega, fun s hs => by have := h1.2.2 s hs; unfold maxLen; omega⟩

abbrev tA : TypeId := 79
/-- The inner loop behind k rounds: w0 is the world ahead of the account, P its block. -/
def InnerAt (w0 : World) (g P : Nat) (nm : ByteArray) (p k : Nat) (wr : World) : Prop :=
  ∃ (fv : Value) (n : Nat) (F : List ByteArray) (p' : Nat), Blk wr P 79 #[.string nm, fv] ∧ wr.ownsRow w0.heap.size 9 1 fv n (F.map Value.string) ∧ fv.ownBlock ≠ some P ∧ Short k F ∧ p' ≤ p + k ∧ Rdr 125 wr g p' ∧ But w0.heap.size g w0 wr
/-- The outer loop behind k rounds: W is the world ahead of the call, B its size. -/
def OuterAt (W : World) (g p k : Nat) (v : Value) (wr : World) : Prop :=
  ∃ (X : List Acc) (p' : Nat), OwnA W.heap.size wr v X ∧ v.ownBlock ≠ some (W.heap.size + 1) ∧ ADrawn k X ∧ (0 < k → 0 < X.length) ∧ p' ≤ p + 7 * k ∧ Rdr 125 wr g p' ∧ But W.heap.size g W wr ∧ Lit3 wr (W.heap.size + 1) 6 ∧ W.heap.size + 1 < wr.heap.size

theorem inner_start {w0 : World} {g p : Nat} (nm : ByteArray) (hr : Rdr 125 w0 g p) (T : TypeId) (hT : T = 9) :
    InnerAt w0 g (w0.heap.size + 1) nm p 0 ((w0.alloc (.cells #[] T)).alloc (.cells #[.string nm, .slice (some ⟨w0.heap.size, 0, none⟩) 0 0] 79)) := by
  subst hT
  refine ⟨_, 0, [], p, ?_, (World.ownsRow_lit w0 #[] 0 (Nat.le_refl _) (Nat.zero_le _) rfl).alloc _, by simp [Value.ownBlock], ⟨by simp, by simp⟩, by omega, (hr.alloc _).alloc _, ?_⟩
  · have h := Blk.new (w0.alloc (.cells #[] 9)) 79 #[.string nm, .slice (some ⟨w0.heap.size, 0, none⟩) 0 0]
    rw [World.size_alloc] at h
    exact h
  · exact But.of_below (((Below.refl _ _).alloc (Nat.le_refl _) _).alloc (by simp) _)
theorem inner_step {w0 w1 w2 : World} {g P p p' k n : Nat} {nm s : ByteArray} {fv v : Value} {F : List ByteArray}
    (own : w2.ownsRow w0.heap.size 9 1 v (n + 1) (F.map Value.string ++ [Value.string s])) (gr : w1.grownBy w2 fv.ownBlock) (at2 : v.ownBlock = fv.ownBlock ∨ v.ownBlock = some w1.heap.size)
    (hfv : w1.ownsRow w0.heap.size 9 1 fv n (F.map Value.string)) (hP : Blk w1 P 79 #[.string nm, fv]) (hne : fv.ownBlock ≠ some P) (hsh : Short k F) (hs : s.size ≤ 5) (hr : Rdr 125 w1 g p') (hp : p' ≤ p + (k + 1)) (hb : But w0.heap.size g w0 w1) (hg : g < w0.heap.size) (hP0 : w0.heap.size ≤ P) :
    InnerAt w0 g P nm p (k + 1) (w2.setCell ⟨P, 1, none⟩ v) := by
  have hP2 : Blk w2 P _ _ := hP.grown gr (fun e => hne e.symm)
  have hvP : v.ownBlock ≠ some P := by
    rcases at2 with e | e
    · rw [e]; exact hne
    · rw [e]; intro h; injection h with h; have := hP.lt; omega
  have hgr : w2.grownBy (w2.setCell ⟨P, 1, none⟩ v) (some P) := ⟨rfl, rfl, rfl, by simp, fun k _ hk => heap_setCell_other w2 ⟨P, 1, none⟩ k v (fun e => hk (by simp [e]))⟩
  refine ⟨v, n + 1, F ++ [s], p', ?_, ?_, hvP, hsh.snoc hs, hp, ?_, ?_⟩
  · simpa using hP2.set_ 1 v
  · rw [List.map_append]
    exact own.kept hgr (.inr hvP)
  · have hr2 := hr.own gr hfv hg
    exact hr2.below (B := g + 1) ⟨rfl, rfl, rfl, by simp, fun k hk => heap_setCell_other w2 ⟨P, 1, none⟩ k v (fun e => by simp at e; omega)⟩ (by omega)
  · have h2 := hb.own gr hfv (Nat.le_refl _) hb.size
    exact h2.trans ⟨rfl, rfl, rfl, by simp, fun k hk _ => heap_setCell_other w2 ⟨P, 1, none⟩ k v (fun e => by simp at e; omega)⟩
theorem inner_keep {w0 w1 : World} {g P p k : Nat} {nm : ByteArray} (h : InnerAt w0 g P nm p k w1) : InnerAt w0 g P nm p (k + 1) w1 := by
  obtain ⟨fv, n, F, p', h1, h2, h3, h4, h5, h6, h7⟩ := h
  exact ⟨fv, n, F, p', h1, h2, h3, h4.more (by omega), by omega, h6, h7⟩

/-- The account goes behind all others. -/
theorem outer_step {W w1 w2 : World} {n c : Nat} {nm : ByteArray} {A : Option Addr} {X : List Acc} {xs : List Value} {fv v2 : Value} {F : List ByteArray}
    (hX : w1.ownsRow W.heap.size 79 2 (.slice A n c) n xs) (hR : RdA w1 (fun b => W.heap.size ≤ b ∧ b < w1.heap.size ∧ (Value.slice A n c).ownBlock ≠ some b) xs X)
    (own2 : w2.ownsRow W.heap.size 79 2 v2 (n + 1) (xs ++ [.string nm, fv])) (gr : (w1.alloc (.cells #[.string nm, fv] 79)).grownBy w2 (Value.slice A n c).ownBlock)
    (at2 : v2.ownBlock = (Value.slice A n c).ownBlock ∨ v2.ownBlock = some (w1.alloc (.cells #[.string nm, fv] 79)).heap.size)
    (hfv : Fls w1 (fun b => W.heap.size ≤ b ∧ b < w1.heap.size ∧ (Value.slice A n c).ownBlock ≠ some b) fv F) :
    OwnA W.heap.size w2 v2 (X ++ [(nm, F)]) := by
  have hown : ∃ A2 n2 c2, v2 = .slice A2 n2 c2 ∧ n2 = n + 1 := by
    rcases own2.2 with ⟨rfl, h⟩ | ⟨_, cap, _, rfl, _⟩
    · omega
    · exact ⟨_, _, _, rfl, rfl⟩
  obtain ⟨A2, n2, c2, rfl, rfl⟩ := hown
  refine ⟨A2, n + 1, c2, _, rfl, own2, ?_⟩
  have h1 : RdA w1 (fun b => W.heap.size ≤ b ∧ b < w1.heap.size ∧ (Value.slice A n c).ownBlock ≠ some b) (xs ++ [.string nm, fv]) (X ++ [(nm, F)]) := hR.snoc hfv
  refine (h1.keep fun q hq => ?_).more fun b hb => ⟨hb.1, ?_, ?_⟩
  · have e1 : (w1.alloc (.cells #[.string nm, fv] 79)).cell? q = w1.cell? q := (((Below.refl w1.heap.size w1).alloc (Nat.le_refl _) _).cell (p := q) hq.2.1)
    rw [← e1]
    exact World.cell?_of_block (gr.block _ (by simp; omega) (fun e => hq.2.2 e.symm))
  · have h2 := gr.size; simp at h2; omega
  · rcases at2 with e | e
    · rw [e]; exact hb.2.2
    · rw [e]; simp; omega
end Go.Proofs.Ytimpmlmkhjeajaa

/- Drawing accounts: the walk of l91Accounts. -/
set_option linter.unusedVariables false
set_option linter.unusedSimpArgs false
namespace Go.Proofs.Ytimpmlmkhjeajaa
open Go.RowKit

theorem Rd.two (w : World) (e : TypeId) (x y : Value) : Rd (w.alloc (.cells #[x, y] e)) (w.heap.size + 1) 2 (some ⟨w.heap.size, 0, none⟩) 1 [x, y] :=
  ⟨rfl, fun _ => ⟨_, 0, rfl, by omega, fun j u hu => by
    rw [(Blk.new w e #[x, y]).cell]
    rcases j with _ | _ | j
    · simpa using hu
    · simpa using hu
    · simp at hu⟩⟩
theorem OwnA.lt {base : Nat} {w : World} {v : Value} {X : List Acc} (h : OwnA base w v X) : ∀ k, v.ownBlock = some k → base ≤ k ∧ k < w.heap.size := by
  obtain ⟨A, n, c, xs, rfl, h1, h2⟩ := h
  exact h1.lt
theorem inner_fls {w0 w1 : World} {B : Nat} {v fv : Value} {n : Nat} {F : List ByteArray} (h : w1.ownsRow w0.heap.size 9 1 fv n (F.map Value.string)) (hB : B ≤ w0.heap.size) (hv : ∀ k, v.ownBlock = some k → k < w0.heap.size) :
    Fls w1 (fun b => B ≤ b ∧ b < w1.heap.size ∧ v.ownBlock ≠ some b) fv F :=
  (Fls.of_own h).more fun b hb => ⟨by omega, hb.2.1, fun e => by have := hv b e; omega⟩

theorem adrawn_set {M : Nat} {nm : ByteArray} {F G : List ByteArray} {X : List Acc} (h : ADrawn M ((nm, F) :: X)) (hG : Short 6 G) : ADrawn (M + 1) ((nm, G) :: X) := by
  refine ⟨by have := h.1; simp at this ⊢; omega, fun a ha => ?_⟩
  rcases List.mem_cons.1 ha with rfl | h1
  · exact ⟨(h.2 (nm, F) (by simp)).1, hG⟩
  · exact h.2 a (List.mem_cons_of_mem _ h1)
/-- The followers of the first account are set to a new list of one name. -/
theorem outer_set {W w8 : World} {g p n1 capX gX : Nat} {xs1 : List Value} (nm : ByteArray) (F G : List ByteArray) (X' : List Acc) (T : TypeId) (hT : T = 9) (k : Nat) (hk : G.length = k) (hkm : k ≤ maxLen) (hX : w8.ownsRow W.heap.size 79 2 (.slice (some ⟨gX, 0, none⟩) n1 capX) n1 xs1) (hR : RdA w8 (fun b => W.heap.size ≤ b ∧ b < w8.heap.size ∧ (Value.slice (some ⟨gX, 0, none⟩) n1 capX).ownBlock ≠ some b) xs1 ((nm, F) :: X'))
    (hr : Rdr 125 w8 g p) (hb : But W.heap.size g W w8) (hg : g < W.heap.size) :
    OwnA W.heap.size ((w8.alloc (.cells (G.map Value.string).toArray T)).setCell ⟨gX, 1, none⟩ (.slice (some ⟨w8.heap.size, 0, none⟩) k k)) (.slice (some ⟨gX, 0, none⟩) n1 capX) ((nm, G) :: X') ∧
    Rdr 125 ((w8.alloc (.cells (G.map Value.string).toArray T)).setCell ⟨gX, 1, none⟩ (.slice (some ⟨w8.heap.size, 0, none⟩) k k)) g p ∧
    But W.heap.size g W ((w8.alloc (.cells (G.map Value.string).toArray T)).setCell ⟨gX, 1, none⟩ (.slice (some ⟨w8.heap.size, 0, none⟩) k k)) := by
  have hlt := hX.lt gX rfl
  have hsz := hb.size
  generalize hw9 : w8.alloc (.cells (G.map Value.string).toArray T) = w9
  have h9 : w8.heap.size < w9.heap.size := by rw [← hw9]; simp
  have hb9 : Below w8.heap.size w8 w9 := by rw [← hw9]; exact (Below.refl _ _).alloc (Nat.le_refl _) _
  have hX9 : w9.ownsRow W.heap.size 79 2 (.slice (some ⟨gX, 0, none⟩) n1 capX) n1 xs1 := by rw [← hw9]; exact hX.alloc _
  have hst := hX9.stored 1 (.slice (some ⟨w8.heap.size, 0, none⟩) k k)
  generalize hw10 : w9.setCell ⟨gX, 1, none⟩ (.slice (some ⟨w8.heap.size, 0, none⟩) k k) = w10 at hst
  have hgr := hst.2
  have hFl : Fls w10 (fun b => W.heap.size ≤ b ∧ b < w10.heap.size ∧ (Value.slice (some ⟨gX, 0, none⟩) n1 capX).ownBlock ≠ some b) (.slice (some ⟨w8.heap.size, 0, none⟩) k k) G := by
    refine ⟨_, _, _, rfl, Nat.le_refl _, hkm, hk, fun h0 => ⟨w8.heap.size, 0, rfl, ⟨by omega, by have := hgr.size; omega, fun e => by simp [Value.ownBlock] at e; omega⟩, fun j s hs => ?_⟩⟩
    rw [World.cell?_of_block (a := ⟨w8.heap.size, 0 + j, none⟩) (hgr.block w8.heap.size (by omega) (fun e => by injection e; omega)), ← hw9, (Blk.new w8 T _).cell]
    simp [hs]
  refine ⟨⟨_, _, _, _, rfl, hst.1, RdA.set0 ((hR.keep fun q hq => ?_).more fun b hb => ⟨hb.1, by have := hgr.size; omega, hb.2.2⟩) hFl⟩, ?_, ?_⟩
  · rw [World.cell?_of_block (a := q) (hgr.block q.block (by omega) (fun e => hq.2.2 e.symm))]
    exact hb9.cell hq.2.1
  · exact (hr.below hb9 hr.lt).below (B := g + 1) ⟨hgr.os, hgr.tape, hgr.output, hgr.size, fun q hq => hgr.block q (by have := hr.lt; omega) (fun e => by injection e; omega)⟩ (by omega)
  · exact (hb.trans (But.of_below (hb9.mono hsz))).trans ⟨hgr.os, hgr.tape, hgr.output, hgr.size, fun q hq _ => hgr.block q (by omega) (fun e => by injection e; omega)⟩

set_option maxHeartbeats 4000000 in
set_option maxRecDepth 100000 in
theorem accounts_any (g p : Nat) (w : World) (hr : Rdr 125 w g p) (hp : p ≤ 900000) :
    Calls Try.prog 58 #[.pointer (some ⟨g, 0, none⟩)] w fun e w' => ∃ v X p', e = .returned v ∧ OwnA w.heap.size w' v X ∧ ADrawn 7 X ∧ 0 < X.length ∧ p' ≤ p + 50 ∧ Rdr 125 w' g p' ∧ But w.heap.size g w w' := by
  obtain ⟨i0, hi0, hz0, hz1, hz2⟩ := info_parts str_info'
  have hU := Try.underlying26
  obtain ⟨i1, hi1, hy0, hy1, hy2⟩ := info_parts acc_info
  have hUA := Try.underlying23
  have hg := hr.lt
  have hlit0 : Lit3 ((w.alloc (.cells #[] 79)).alloc (.cells #[.string { data := #[97, 110, 110] }, .string { data := #[98, 111, 98] }, .string { data := #[99, 97, 116] }, .string { data := #[100, 97, 110] }, .string { data := #[101, 118, 101] }, .string { data := #[120] }] 9)) (w.heap.size + 1) 6 := by
    refine ⟨#[.string { data := #[97, 110, 110] }, .string { data := #[98, 111, 98] }, .string { data := #[99, 97, 116] }, .string { data := #[100, 97, 110] }, .string { data := #[101, 118, 101] }, .string { data := #[120] }], ?_, rfl, by decide⟩
    have h := Blk.new (w.alloc (.cells #[] 79)) 9
    rw [World.size_alloc] at h
    exact h _
  have hstart : OuterAt w g p 0 (.slice (some ⟨w.heap.size, 0, none⟩) 0 0) ((w.alloc (.cells #[] 79)).alloc (.cells #[.string { data := #[97, 110, 110] }, .string { data := #[98, 111, 98] }, .string { data := #[99, 97, 116] }, .string { data := #[100, 97, 110] }, .string { data := #[101, 118, 101] }, .string { data := #[120] }] 9)) :=
    ⟨[], p, ⟨_, 0, 0, [], rfl, (World.ownsRow_lit w #[] 0 (Nat.le_refl _) (Nat.zero_le _) rfl).alloc _, RdA.nil⟩, by simp [Value.ownBlock], ⟨by simp, by simp⟩, by omega, by omega, (hr.alloc _).alloc _, But.of_below (((Below.refl _ _).alloc (Nat.le_refl _) _).alloc (by simp) _), hlit0, by simp⟩
  clear hlit0
  have Hstart := hide hstart
  clear hstart
  go_enter Try.func58, Try.ntmps58
  go_wp2_with fail
  go_loopw [3, 5] (fun v i wr => ∃ k : Nat, k ≤ 6 ∧ i = .int .i64 k ∧ Hid (OuterAt w g p k v wr)) (fun _ i _ => 6 - (intOf i).toNat)
  case atStart => exact ⟨0, by omega, rfl, Hstart.out⟩
  case round =>
    obtain ⟨k, hk, rfl, ho⟩ := hrel
    obtain ⟨X, p', hown, hnb, hdr, hpos, hp', hr2, hbut, hlit, hs2⟩ := ho.out
    by_cases hlt : k < 6
    · obtain ⟨nm, hnm, hck⟩ := hlit.cell hlt
      have Hown := hide hown
      have Hbut := hide hbut
      have Hlit := hide hlit
      have Hdr := hide hdr
      clear ho hown hbut hlit hdr
      go_wp2_with fail
      refine (pick_any g p' 2 _ hr2 (by omega) (by omega) (by omega)).mono ?_
      rintro e w3 ⟨⟨q, hq, rfl⟩, hr3, hb3⟩
      have hs3 := hb3.size
      have Hown3 := hide (Hown.out.but hb3 hg)
      have Hb3 := hide (Hbut.out.trans (hb3.mono Hbut.out.size))
      have Hlit3 := hide (Hlit.out.but hb3 hs2 (by omega))
      have hck3 : w3.cell? ⟨w.heap.size + 1, k, none⟩ = some (.string nm) := (World.cell?_of_block (a := ⟨w.heap.size + 1, k, none⟩) (hb3.block (w.heap.size + 1) hs2 (by omega))).trans hck
      clear hb3 Hown Hbut Hlit hck
      by_cases hin : q = 0 ∨ k = 0
      rotate_left
      · have f0 : ((q : Int) == 0) = false := by rw [beq_eq_false_iff_ne]; omega
        have f1 : ((k : Int) == 0) = false := by rw [beq_eq_false_iff_ne]; omega
        have H : Hid (OuterAt w g p (k + 1) u3 w3) := ⟨X, p' + 1, Hown3.out, hnb, Hdr.out.more (by omega), fun _ => hpos (by omega), by omega, hr3, Hb3.out, Hlit3.out, by omega⟩
        clear hin
        go_wp2_with fail
        go_roundw
        case rel => exact ⟨k + 1, by omega, by go_num, H⟩
        case measure => simp [intOf]; omega
      have Hin : Hid (InnerAt w3 g (w3.heap.size + 1) nm (p' + 1) 0 ((w3.alloc (.cells #[] 9)).alloc (.cells #[.string nm, .slice (some ⟨w3.heap.size, 0, none⟩) 0 0] 79))) := inner_start nm hr3 _ rfl
      have hbs := Hb3.out.size
      have hoq : (q = 0) ∨ (((q : Int) == 0) = false ∧ ((k : Int) == 0) = true) := by
        by_cases e : q = 0
        · exact .inl e
        · exact .inr ⟨by rw [beq_eq_false_iff_ne]; omega, by rw [beq_iff_eq]; omega⟩
      clear hin
      rcases hoq with rfl | ⟨f0, f1⟩
      all_goals
        go_wp2_with fail
        go_loopw [7] (fun i wr => ∃ j : Nat, j ≤ 6 ∧ i = .int .i64 j ∧ Hid (InnerAt w3 g (w3.heap.size + 1) nm (p' + 1) j wr)) (fun i _ => 6 - (intOf i).toNat)
        case atStart => exact ⟨0, by omega, rfl, Hin.out⟩
        case round =>
          obtain ⟨j, hj, rfl, hi⟩ := hrel
          obtain ⟨fv, n, F, p4, hP, hfv, hne, hsh, hp4, hr4, hb4⟩ := hi.out
          have hs4 := hb4.size
          have hPc0 : wr.cell? ⟨w3.heap.size + 1, 0, none⟩ = some (.string nm) := hP.cell 0
          have hPc1 : wr.cell? ⟨w3.heap.size + 1, 1, none⟩ = some fv := hP.cell 1
          have HP := hide hP
          have Hfv := hide hfv
          have Hb4 := hide hb4
          have Hsh := hide hsh
          clear hP hfv hb4 hsh hi
          by_cases hj6 : j < 6
          · obtain ⟨s, hs, hcj0⟩ := (Hlit3.out.but Hb4.out (by omega) (by omega)).cell hj6
            have hwP : w.heap.size + 1 < w3.heap.size := by omega
            by_cases ejk : j = k
            · have f2 : ((j : Int) != (k : Int)) = false := by rw [bne_eq_false_iff_eq]; omega
              have H : Hid (InnerAt w3 g (w3.heap.size + 1) nm (p' + 1) (j + 1) wr) := ⟨fv, n, F, p4, HP.out, Hfv.out, hne, Hsh.out.more (by omega), by omega, hr4, Hb4.out⟩
              have EJK := hide ejk
              clear ejk
              go_wp2_with fail
              go_roundw
              case rel => exact ⟨j + 1, by omega, by go_num, H⟩
              case measure => simp [intOf]; omega
            have f2 : ((j : Int) != (k : Int)) = true := by rw [bne_iff_ne]; omega
            go_wp2_with fail
            refine (pick_any g p4 2 _ hr4 (by omega) (by omega) (by omega)).mono ?_
            rintro e w5 ⟨⟨q5, hq5, rfl⟩, hr5, hb5⟩
            have hs5 := hb5.size
            have hPg : (w3.heap.size + 1) ≠ g := by omega
            have HP5 := hide (HP.out.but hb5 hPg)
            have Hfv5 := hide (own_but Hfv.out hb5 (by omega))
            have Hb45 := hide (Hb4.out.trans (hb5.mono Hb4.out.size))
            have hcj : w5.cell? ⟨w.heap.size + 1, j, none⟩ = some (.string s) := (World.cell?_of_block (a := ⟨w.heap.size + 1, j, none⟩) (hb5.block (w.heap.size + 1) (by omega) (by omega))).trans hcj0
            clear hb5 hPc0 hPc1 hcj0
            by_cases eq5 : q5 = 0
            · subst eq5
              have hPc1 : w5.cell? ⟨w3.heap.size + 1, 1, none⟩ = some fv := HP5.out.cell 1
              have hPf1 : w5.frozen? ⟨w3.heap.size + 1, 1, none⟩ = false := HP5.out.frozen 1
              have hPlt := HP5.out.lt
              have hnl := own_len' Hfv5.out
              have hnF : n ≤ 6 := by have h1 := Hsh.out.1; omega
              have b1 : n + 1 ≤ maxLen := by unfold maxLen; omega
              have b2 : (n + 1) * 16 ≤ 140737488355328 := by omega
              clear hnl
              go_wp2_with fail
              go_region_law (first
                | (refine step_append_rd _ rfl (.tmp 44) (.tmp 49) _ rfl w3.heap.size 9 i0 _ 1 16 hU hi0 hz0 hz1 hz2 rfl (by omega) fv n (F.map Value.string) rfl (by exact (Hfv5.out.alloc _).drew) (w5.heap.size + 1) (some ⟨w5.heap.size, 0, none⟩) 1 _ [Value.string s] rfl (by exact Rd.one _ _ _) (one_strs [s]) b1 b2 (by simp; omega) ?_
                   intro v6 w6 own6 gr6 at6
                   obtain ⟨g6, cap6, e6, _, _⟩ := own6.form (by omega)
                   subst e6
                   have hrest : Hid (InnerAt w3 g (w3.heap.size + 1) nm (p' + 1) (j + 1) (w6.setCell ⟨w3.heap.size + 1, 1, none⟩ (.slice (some ⟨g6, 0, none⟩) (n + 1) cap6))) := inner_step own6 gr6 at6 (by exact (Hfv5.out.alloc _).drew) (by exact HP5.out.alloc _) hne Hsh.out (by omega) (by exact (hr5.alloc _).drewN 1) (by omega) (by exact (Hb45.out.alloc Hb45.out.size _).drewN 1) (by omega) (by omega)
                   have hP6 : Blk w6 (w3.heap.size + 1) _ _ := (show Blk ((w5.alloc (.cells #[Value.string s] 9)).drew) (w3.heap.size + 1) 79 #[.string nm, fv] from HP5.out.alloc _).grown gr6 (fun e => hne e.symm)
                   have hPc6 : w6.cell? ⟨w3.heap.size + 1, 1, none⟩ = some fv := hP6.cell 1
                   have hPf6 : w6.frozen? ⟨w3.heap.size + 1, 1, none⟩ = false := hP6.frozen 1
                   clear gr6 at6 own6 hP6))
              all_goals
                go_wp2_with fail
                go_roundw
                case rel => exact ⟨j + 1, by omega, by go_num, hrest⟩
                case measure => simp [intOf]; omega
            · have f5 : ((q5 : Int) == 0) = false := by rw [beq_eq_false_iff_ne]; omega
              have H : Hid (InnerAt w3 g (w3.heap.size + 1) nm (p' + 1) (j + 1) w5) := ⟨fv, n, F, p4 + 1, HP5.out, Hfv5.out, hne, Hsh.out.more (by omega), by omega, hr5, Hb45.out⟩
              clear eq5
              go_wp2_with fail
              go_roundw
              case rel => exact ⟨j + 1, by omega, by go_num, H⟩
              case measure => simp [intOf]; omega
          · obtain ⟨A1, n1, c1, xs1, e1, hX1, hR1⟩ := Hown3.out.but Hb4.out hg
            subst e1
            have hxl := hR1.1
            have hnx := hX1.1
            have hn6 : n1 ≤ 6 := by have := Hdr.out.1; omega
            have HFv : Hid (Fls wr (fun b => w.heap.size ≤ b ∧ b < wr.heap.size ∧ (Value.slice A1 n1 c1).ownBlock ≠ some b) fv F) := inner_fls Hfv.out hbs (fun kk hkk => (Hown3.out.lt kk hkk).2)
            have b1 : n1 + 1 ≤ maxLen := by unfold maxLen; omega
            have b2 : (n1 + 1) * 40 ≤ 140737488355328 := by omega
            have hone : ∀ u ∈ [Value.string nm, fv], u.oneCell' = true := by
              intro u hu
              simp at hu
              rcases hu with rfl | rfl
              · rfl
              · rcases Hfv.out.2 with ⟨rfl, _⟩ | ⟨_, _, _, rfl, _⟩ <;> rfl
            have HX1 := hide hX1
            have HR1 := hide hR1
            have Hone := hide hone
            clear hX1 hR1 hone hxl hnx
            go_wp2_with (
              (at_builtin
               refine wpList_append_rd _ rfl (.tmp 52) (.tmp 54) _ rfl w.heap.size 79 i1 _ 2 40 hUA hi1 hy0 hy1 hy2 rfl (by omega) (.slice A1 n1 c1) n1 xs1 rfl (HX1.out.alloc _) (wr.heap.size + 1) (some ⟨wr.heap.size, 0, none⟩) 1 _ [Value.string nm, fv] rfl (Rd.two _ _ _ _) Hone.out b1 b2 (by simp; omega) ?_
               intro v7 w7 own7 gr7 at7
               have H7 := hide (outer_step HX1.out HR1.out own7 gr7 at7 HFv.out)
               clear own7))
            have hs7 : w.heap.size + 1 < w7.heap.size ∧ Hid (OuterAt w g p (k + 1) v7 w7) := by
              have hgs := gr7.size
              simp at hgs
              refine ⟨by omega, X ++ [(nm, F)], p4, H7.out, ?_, Hdr.out.snoc hnm (Hsh.out.more (by omega)), fun _ => by simp, by omega, (hr4.alloc _).own gr7 (HX1.out.alloc _) hg, ((Hb3.out.trans (Hb4.out.mono hbs)).alloc (by omega) _).own gr7 (HX1.out.alloc _) (Nat.le_refl _) (by simp; omega), ?_, by omega⟩
              · rcases at7 with e | e
                · rw [e]; exact hnb
                · rw [e]; intro h; simp at h; omega
              · obtain ⟨cs, l1, l2, l3⟩ := Hlit3.out.but Hb4.out (by omega) (by omega)
                exact ⟨cs, (l1.alloc _).own gr7 hnb, l2, l3⟩
            clear gr7 at7
            go_wp2_with fail
            go_roundw
            case rel => exact ⟨k + 1, by omega, by go_num, hs7.2⟩
            case measure => simp [intOf]; omega
    · go_wp2_with fail
      refine (pick_any g p' 40 _ hr2 (by omega) (by omega) (by omega)).mono ?_
      rintro e w8 ⟨⟨q8, hq8, rfl⟩, hr8, hb8⟩
      have hs8 := hb8.size
      have Hown8 := hide (hown.but hb8 hg)
      have Hb8 := hide (hbut.trans (hb8.mono hbut.size))
      have Hdr := hide hdr
      have hX0 := hpos (by omega)
      obtain ⟨⟨nm, F⟩, X', hXe⟩ := List.exists_cons_of_length_pos hX0
      clear ho hown hbut hlit hdr hpos hb8
      subst hXe
      obtain ⟨A1, n1, c1, xs1, e1, hX1, hR1⟩ := Hown8.out
      subst e1
      have hxl := hR1.1
      have hnx := hX1.1
      have hn6 : n1 ≤ 6 ∧ 1 ≤ n1 := by have := Hdr.out.1; simp at hxl this; omega
      obtain ⟨gX, capX, eX, hgX, hgX2⟩ := hX1.form (by omega)
      injection eX with eX1 eX2 eX3
      subst eX1 eX3
      obtain ⟨h0, u, h1, hu⟩ := hR1.2 0 (nm, F) rfl
      have hc0 : w8.cell? ⟨gX, 0, none⟩ = some (.string nm) := (hX1.cellAt 0 (by omega)).trans h0
      have hc1 : w8.cell? ⟨gX, 1, none⟩ = some u := (hX1.cellAt 1 (by omega)).trans h1
      have hf1 : w8.frozen? ⟨gX, 1, none⟩ = false := hX1.frozenAt 1
      have HX1 := hide hX1
      have HR1 := hide hR1
      have Hu := hide hu
      clear hX1 hR1 h0 h1 hxl hnx hu
      by_cases e0 : q8 = 0
      · subst e0
        have hba := (Below.refl w8.heap.size w8).alloc (Nat.le_refl _) (.cells #[.string { data := #[97, 110, 110] }] 9)
        have hc1' : (w8.alloc (.cells #[.string { data := #[97, 110, 110] }] 9)).cell? ⟨gX, 1, none⟩ = some u := (hba.cell (p := ⟨gX, 1, none⟩) hgX2).trans hc1
        have hf1' : (w8.alloc (.cells #[.string { data := #[97, 110, 110] }] 9)).frozen? ⟨gX, 1, none⟩ = false := (hba.frozen (p := ⟨gX, 1, none⟩) hgX2).trans hf1
        have hres := (outer_set nm F [{ data := #[97, 110, 110] }] X' 9 rfl 1 rfl (by unfold maxLen; omega) HX1.out HR1.out hr8 Hb8.out hg)
        rw [World.setCell_alloc_past _ _ _ _ hgX2] at hres
        have Hres := hide hres
        clear hba hres
        go_wp2_with fail
        go_ret
        exact ⟨.slice (some ⟨gX, 0, none⟩) n1 c1, _, p' + 1, rfl, Hres.out.1, (adrawn_set Hdr.out (G := [{ data := #[97, 110, 110] }]) ⟨by simp, by simp; decide⟩).more (by omega), by simp, by omega, Hres.out.2.1, Hres.out.2.2⟩
      · by_cases e1 : q8 = 1
        · subst e1
          have b1 : n1 + 1 ≤ maxLen := by unfold maxLen; omega
          have b2 : (n1 + 1) * 40 ≤ 140737488355328 := by omega
          have hone : ∀ x ∈ [Value.string nm, u], x.oneCell' = true := by
            intro x hx
            simp at hx
            rcases hx with rfl | rfl
            · rfl
            · obtain ⟨A, n, c, rfl, _⟩ := Hu.out
              rfl
          have Hone := hide hone
          clear hone
          go_wp2_with (
              (at_builtin
               go_must (refine wpList_append_rd _ rfl (.tmp 66) (.tmp 70) _ rfl w.heap.size 79 i1 _ 2 40 hUA hi1 hy0 hy1 hy2 rfl (by omega) (.slice (some ⟨gX, 0, none⟩) n1 c1) n1 xs1 rfl (HX1.out.alloc _) (w8.heap.size + 1) (some ⟨w8.heap.size, 0, none⟩) 1 _ [Value.string nm, u] rfl (Rd.two _ _ _ _) Hone.out b1 b2 (by simp; omega) ?_)
               intro v9 w9 own9 gr9 at9
               go_must (have H9 := hide (outer_step HX1.out HR1.out own9 gr9 at9 Hu.out))
               go_must (have Hr9 := hide ((hr8.alloc _).own gr9 (HX1.out.alloc _) hg))
               go_must (have Hb9 := hide ((Hb8.out.alloc (by omega) _).own gr9 (HX1.out.alloc _) (Nat.le_refl _) (by simp; omega)))
               clear gr9 at9 own9))
          go_ret
          exact ⟨v9, _, p' + 1, rfl, H9.out, (Hdr.out.snoc (Hdr.out.2 (nm, F) (by simp)).1 (Hdr.out.2 (nm, F) (by simp)).2).more (by omega), by simp, by omega, Hr9.out, Hb9.out⟩
        · have f0 : ((q8 : Int) == 0) = false := by rw [beq_eq_false_iff_ne]; omega
          have f1 : ((q8 : Int) == 1) = false := by rw [beq_eq_false_iff_ne]; omega
          go_wp2_with fail
          go_ret
          exact ⟨.slice (some ⟨gX, 0, none⟩) n1 c1, _, p' + 1, rfl, Hown8.out, Hdr.out.more (by omega), by simp, by omega, hr8, Hb8.out⟩
end Go.Proofs.Ytimpmlmkhjeajaa

/- Drawing accounts: DrawAccountsValid, DrawFollowersOf, DrawFollowedBy, DrawFollow, DrawUnfollow. -/
set_option linter.unusedVariables false
set_option linter.unusedSimpArgs false
namespace Go.Proofs.Ytimpmlmkhjeajaa
open Go.RowKit

/-- Accounts were drawn. -/
def DrawnA (w : World) (v : Value) (X : List Acc) (w' : World) : Prop := ∃ A n c, v = .slice A n c ∧ Accs w' w'.heap.size A n X ∧ n ≤ c ∧ ADrawn 8 X ∧ 0 < X.length ∧ OwnA w.heap.size w' v X ∧ Below w.heap.size w w'
def DrawnA0 (w : World) (e : Ending) (w' : World) : Prop := ∃ v X, e = .returned v ∧ DrawnA w v X w'
def DrawnA1 (w : World) (e : Ending) (w' : World) : Prop := ∃ v X s, e = .returned (.tuple #[v, .string s]) ∧ DrawnA w v X w' ∧ s.size ≤ 5
/-- .. with two names, of which the second one is that of an account. -/
def DrawnA2 (w : World) (e : Ending) (w' : World) : Prop := ∃ v X who s, e = .returned (.tuple #[v, .string who, .string s]) ∧ DrawnA w v X w' ∧ who.size ≤ 5 ∧ s.size ≤ 3
theorem DrawnA.mk {w w1 w2 : World} {v : Value} {X : List Acc} (h : OwnA w1.heap.size w2 v X) (hd : ADrawn 8 X) (h0 : 0 < X.length) (hb : Below w.heap.size w w1) (hb2 : But w1.heap.size w.heap.size w1 w2) (hg : w.heap.size < w1.heap.size) : DrawnA w v X w2 := by
  obtain ⟨A, n, c, e, h1, h2, h3, _⟩ := h.accs
  have hs := hb2.size
  refine ⟨A, n, c, e, h3, h1, hd, h0, ?_, hb.trans (hb2.below.mono (by omega))⟩
  obtain ⟨A, n, c, xs, rfl, g1, g2⟩ := h
  exact ⟨A, n, c, xs, rfl, ⟨g1.1, by
    rcases g1.2 with h | ⟨g, cap, cur, e1, e2, e3⟩
    · exact .inl h
    · exact .inr ⟨g, cap, cur, e1, by omega, e3⟩⟩, g2.more fun b hb => ⟨by omega, hb.2⟩⟩




end Go.Proofs.Ytimpmlmkhjeajaa

/- Drawing accounts: DrawFollow. -/
set_option linter.unusedVariables false
set_option linter.unusedSimpArgs false
namespace Go.Proofs.Ytimpmlmkhjeajaa
open Go.RowKit

theorem pick_accs {base : Nat} (g p b n c : Nat) (X : List Acc) (w : World) (hr : Rdr 125 w g p) (hp : p ≤ 1000000) (hX : OwnA base w (.slice (some ⟨b, 0, none⟩) n c) X) (hg : g < base) (h1 : 1 ≤ n) (h2 : n ≤ 1000000) :
    Calls Try.prog 59 #[.pointer (some ⟨g, 0, none⟩), .int .i64 n] w.drew fun e w' => ∃ (k : Nat) (a : Acc) (u : Value), k < n ∧ e = .returned (.int .i64 k) ∧ X[k]? = some a ∧ w'.cell? ⟨b, k * 2, none⟩ = some (.string a.1) ∧ w'.cell? ⟨b, k * 2 + 1, none⟩ = some u ∧
      OwnA base w' (.slice (some ⟨b, 0, none⟩) n c) X ∧ Rdr 125 w' g (p + 1) ∧ But w.heap.size g w w' := by
  refine (pick_any g p n w.drew (hr.drewN 1) hp h1 h2).mono fun e w' ⟨⟨k, hk, he⟩, hr', hb⟩ => ?_
  have hb' : But w.heap.size g w w' := (But.of_below (below_drewN' _ w 1)).trans hb
  have own' := hX.but hb' hg
  obtain ⟨A, n', c', xs, e1, o1, o2⟩ := id own'
  injection e1 with e1 e2 e3
  subst e1 e2 e3
  have e4 := o1.1
  have e5 := o2.1
  obtain ⟨a, ha⟩ : ∃ a, X[k]? = some a := ⟨X[k]'(by omega), List.getElem?_eq_getElem _⟩
  obtain ⟨p1, u, p2, _⟩ := o2.2 k a ha
  exact ⟨k, a, u, hk, he, ha, (o1.cellAt (k * 2) (by omega)).trans p1, (o1.cellAt (k * 2 + 1) (by omega)).trans p2, own', hr', hb'⟩

end Go.Proofs.Ytimpmlmkhjeajaa

/- Walk of FnFollowersOf. -/
set_option linter.unusedVariables false
set_option linter.unusedSimpArgs false
namespace Go.Proofs.Ytimpmlmkhjeajaa
open Go.RowKit

theorem own1_strs {w w' : World} {L : List ByteArray} {e : Ending} (h : Own1 w L e w') : ∃ A n c, e = .returned (.slice A n c) ∧ n ≤ c ∧ Strs w' w'.heap.size A n L ∧ Below w.heap.size w w' := by
  obtain ⟨v, rfl, ⟨A, n, c, rfl, own⟩, hb⟩ := h
  exact ⟨A, n, c, rfl, (own_cap own).1, Strs.of_own own, hb⟩
theorem folM_len (X : List Acc) (s : ByteArray) : (folM X s).length ≤ 10 := by
  cases hv : asB X
  · rw [folM_f hv]; exact Nat.zero_le _
  · rw [folM_t hv]; exact fol_len hv s

end Go.Proofs.Ytimpmlmkhjeajaa
