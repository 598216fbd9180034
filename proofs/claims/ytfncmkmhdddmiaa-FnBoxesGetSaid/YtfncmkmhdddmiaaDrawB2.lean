/- Drawing boxes: l91Boxes, DrawBoxPut, DrawBoxesPut, DrawBoxesGet, DrawBoxesValid. -/
import Derived.Test.YtfncmkmhdddmiaaDrawB
set_option linter.unusedVariables false
set_option linter.unusedSimpArgs false
namespace Go.Proofs.Ytfncmkmhdddmiaa
open Go.RowKit

/-- A further box, its numbers in a block from B0 on, all others below. -/
theorem NestB.snoc2 {base B0 n c m : Nat} {A : Option Addr} {Y : List BxV} {w6 w7 : World} {nm : ByteArray} {L : List Int} {v6 v7 : Value} {T : TypeId} (hY6 : NestB base w6 A n c Y) (hfr : ∀ q, WBlk (.slice A n c) Y q → q < B0) (h6 : w6.ownsRow B0 3 1 v6 m (L.map (Value.int .i64))) (hbase : base ≤ B0)
    (own7 : w7.ownsRow base 40 2 v7 (n + 1) (wcells Y ++ [.string nm, v6])) (gr7 : (w6.alloc (.cells #[.string nm, v6] T)).grownBy w7 (Value.slice A n c).ownBlock)
    (at7 : v7.ownBlock = (Value.slice A n c).ownBlock ∨ v7.ownBlock = some (w6.alloc (.cells #[.string nm, v6] T)).heap.size) : ∃ A7 c7, v7 = .slice A7 (n + 1) c7 ∧ NestB base w7 A7 (n + 1) c7 (Y ++ [(nm, L, v6)]) := by
  have hgs := gr7.size
  simp only [World.size_alloc] at hgs
  have hm : L.length = m := own_leni h6
  have o6' := h6.alloc (.cells #[.string nm, v6] T)
  have hbl6 : ∀ q, v6.ownBlock = some q → B0 ≤ q ∧ q < w6.heap.size := fun q hq => h6.lt q hq
  have kept7 : ∀ {e : TypeId} {size m : Nat} {v : Value} {xs : List Value}, (w6.alloc (.cells #[.string nm, v6] T)).ownsRow base e size v m xs → (∀ q, v.ownBlock = some q → (Value.slice A n c).ownBlock ≠ some q) → w7.ownsRow base e size v m xs := by
    intro e size m v xs ho hne
    refine ho.kept gr7 ?_
    cases hv : v.ownBlock with
    | none => exact .inl rfl
    | some q => exact .inr (fun e => hne q hv e.symm)
  obtain ⟨A7, c7, rfl⟩ := own_slice own7
  have hat : ∀ q, (q < w6.heap.size) → (Value.slice A n c).ownBlock ≠ some q → (Value.slice A7 (n + 1) c7).ownBlock ≠ some q := by
    intro q hq hne
    rcases at7 with e | e
    · rw [e]; exact hne
    · rw [e]; intro h; simp at h; omega
  refine ⟨A7, c7, rfl, ?_, ?_, ?_, ?_⟩
  · rw [wcells_app]; exact own7
  · intro y hy
    rcases List.mem_append.1 hy with h1 | h1
    · exact kept7 ((hY6.ids y h1).alloc _) (fun q hq => hY6.far y h1 q hq)
    · rw [List.mem_singleton.1 h1]
      rw [show ((nm, L, v6) : BxV).2.1.length = m from hm]
      exact kept7 (own_base o6' hbase) (fun q hq e => by have := hbl6 q hq; have := hfr q (.inl e); omega)
  · intro y hy q hq
    rcases List.mem_append.1 hy with h1 | h1
    · exact hat q (by have := (hY6.ids y h1).lt q hq; omega) (hY6.far y h1 q hq)
    · rw [List.mem_singleton.1 h1] at hq
      exact hat q (hbl6 q hq).2 (fun e => by have := hbl6 q hq; have := hfr q (.inl e); omega)
  · rw [List.pairwise_append]
    refine ⟨hY6.two, List.pairwise_singleton _ _, fun y hy z hz q hq e => ?_⟩
    rw [List.mem_singleton.1 hz] at e
    have h1 := hfr q (.inr ⟨y, hy, hq⟩)
    have h2 := hbl6 q e
    omega
/-- The numbers of the first box are none, in a new block. -/
theorem NestB.ids0 {base n c gX : Nat} {Y : List BxV} {y : BxV} {w : World} (h : NestB base w (some ⟨gX, 0, none⟩) n c Y) (hy : Y[0]? = some y) (hb : base ≤ w.heap.size) :
    NestB base ((w.alloc (.cells #[] 3)).setCell ⟨gX, 1, none⟩ (.slice (some ⟨w.heap.size, 0, none⟩) 0 0)) (some ⟨gX, 0, none⟩) n c (Y.set 0 (y.1, [], .slice (some ⟨w.heap.size, 0, none⟩) 0 0)) := by
  have hgX := h.row.lt gX rfl
  have h9 := h.alloc (.cells #[] 3)
  have s1 := h9.row.stored 1 (.slice (some ⟨w.heap.size, 0, none⟩) 0 0)
  have e1 := wcells_set1 (k := 0) [] (.slice (some ⟨w.heap.size, 0, none⟩) 0 0) hy
  rw [show 0 * 2 + 1 = 1 from rfl] at e1
  rw [e1] at s1
  have gr : ∀ v, (w.alloc (.cells #[] 3)).grownBy ((w.alloc (.cells #[] 3)).setCell ⟨gX, 1, none⟩ v) (some gX) := fun v => ⟨rfl, rfl, rfl, by simp, fun k _ hk => heap_setCell_other _ ⟨gX, 1, none⟩ k v (fun e => hk (by simp [e]))⟩
  have new : (w.alloc (.cells #[] 3)).ownsRow base 3 1 (.slice (some ⟨w.heap.size, 0, none⟩) 0 0) 0 (([] : List Int).map (Value.int .i64)) := World.ownsRow_lit w #[] 0 hb (Nat.zero_le _) rfl
  have newne : ∀ z ∈ Y, ∀ b, z.2.2.ownBlock = some b → b < w.heap.size := fun z hz b hzb => ((h.ids z hz).lt b hzb).2
  refine ⟨s1.1, fun z hz => ?_, fun z hz d hd => ?_, ?_⟩
  · rcases List.mem_or_eq_of_mem_set hz with h1 | rfl
    · exact (h9.ids z h1).kept (gr _) (.inr (fun e => h.far z h1 _ e rfl))
    · exact new.kept (gr _) (.inr (fun e => by simp [Value.ownBlock] at e; omega))
  · rcases List.mem_or_eq_of_mem_set hz with h1 | rfl
    · exact h.far z h1 d hd
    · intro e; simp [Value.ownBlock] at hd e; omega
  · cases Y with
    | nil => simp at hy
    | cons y0 Y =>
      rw [List.set_cons_zero, List.pairwise_cons]
      have ht := List.pairwise_cons.1 h.two
      refine ⟨fun z hz d hd e => ?_, ht.2⟩
      simp [Value.ownBlock] at hd
      subst hd
      exact absurd (newne z (List.mem_cons_of_mem _ hz) _ e) (by omega)

/-- What is drawn is small. -/
def BDrawn (M : Nat) (X : List Bx) : Prop := X.length ≤ M ∧ ∀ a ∈ X, a.1.size ≤ 5 ∧ a.2.length ≤ 6
theorem BDrawn.small {M : Nat} {X : List Bx} (h : BDrawn M X) : BSmall X := fun a ha => by have := (h.2 a ha).1; unfold maxLen; omega
theorem BDrawn.more {M M' : Nat} {X : List Bx} (h : BDrawn M X) (hm : M ≤ M') : BDrawn M' X := ⟨Nat.le_trans h.1 hm, h.2⟩
theorem BDrawn.snoc {M : Nat} {X : List Bx} {s : ByteArray} {L : List Int} (h : BDrawn M X) (hs : s.size ≤ 5) (hL : L.length ≤ 6) : BDrawn (M + 1) (X ++ [(s, L)]) := by
  refine ⟨by have := h.1; simp; omega, fun a ha => ?_⟩
  rcases List.mem_append.1 ha with h2 | h2
  · exact h.2 a h2
  · rw [List.mem_singleton.1 h2]; exact ⟨hs, hL⟩
theorem bxV_set0 {Y : List BxV} {y : BxV} {u : Value} (hy : Y[0]? = some y) {M : Nat} (h : BDrawn M (bxV Y)) : BDrawn M (bxV (Y.set 0 (y.1, [], u))) := by
  cases Y with
  | nil => simp at hy
  | cons y0 Y =>
    simp at hy
    subst hy
    refine ⟨by have := h.1; simpa [bxV] using this, fun a ha => ?_⟩
    rcases List.mem_cons.1 (show a ∈ (y0.1, ([] : List Int)) :: bxV Y from ha) with rfl | h1
    · exact ⟨(h.2 (y0.1, y0.2.1) (by simp [bxV])).1, by simp⟩
    · exact h.2 a (List.mem_cons_of_mem _ h1)

set_option maxHeartbeats 2000000 in
set_option maxRecDepth 100000 in
theorem boxes_any (g p : Nat) (w : World) (hr : Rdr 80 w g p) (hp : p ≤ 800000) :
    Calls Try.prog 55 #[.pointer (some ⟨g, 0, none⟩)] w fun e w' => ∃ A n c Y p', e = .returned (.slice A n c) ∧ NestB w.heap.size w' A n c Y ∧ BDrawn 6 (bxV Y) ∧ p' ≤ p + 200 ∧ Rdr 80 w' g p' ∧ But w.heap.size g w w' := by
  obtain ⟨i2, hi2, hz0, hz1, hz2⟩ := info_parts' box_info
  have hUB := Try.underlying31
  have hg := hr.lt
  have hlit0 : Lit ((w.alloc (.cells #[] 40)).alloc (.cells #[.string { data := #[97, 110, 110] }, .string { data := #[98, 111, 98] }, .string { data := #[99, 97, 116] }, .string { data := #[100, 97, 110] }, .string { data := #[101, 118, 101] }, .string { data := #[120] }] 9)) (w.heap.size + 1) 6 := by
    refine ⟨#[.string { data := #[97, 110, 110] }, .string { data := #[98, 111, 98] }, .string { data := #[99, 97, 116] }, .string { data := #[100, 97, 110] }, .string { data := #[101, 118, 101] }, .string { data := #[120] }], ?_, rfl, by decide⟩
    have h := Blk.new (w.alloc (.cells #[] 40)) 9
    rw [World.size_alloc] at h
    exact h _
  have Hlit0 := hide hlit0
  have HN0 : Hid (NestB w.heap.size ((w.alloc (.cells #[] 40)).alloc (.cells #[.string { data := #[97, 110, 110] }, .string { data := #[98, 111, 98] }, .string { data := #[99, 97, 116] }, .string { data := #[100, 97, 110] }, .string { data := #[101, 118, 101] }, .string { data := #[120] }] 9)) (some ⟨w.heap.size, 0, none⟩) 0 0 []) :=
    NestB.alloc ⟨World.ownsRow_lit w #[] 0 (Nat.le_refl _) (Nat.zero_le _) rfl, fun y h => (by cases h), fun y h => (by cases h), List.Pairwise.nil⟩ _
  have Hb0 := hide (But.of_below (g := g) (((Below.refl w.heap.size w).alloc (Nat.le_refl _) (.cells #[] 40)).alloc (by simp) (.cells #[.string { data := #[97, 110, 110] }, .string { data := #[98, 111, 98] }, .string { data := #[99, 97, 116] }, .string { data := #[100, 97, 110] }, .string { data := #[101, 118, 101] }, .string { data := #[120] }] 9)))
  clear hlit0
  go_enter Try.func55, Try.ntmps55
  go_wp2_with fail
  go_loopw [3, 5, 6] (fun v i _ wr => ∃ (k m p' : Nat) (A4 : Option Addr) (c4 : Nat) (Y : List BxV), k ≤ 6 ∧ i = .int .i64 k ∧ v = .slice A4 m c4 ∧ m ≤ k ∧ (Value.slice A4 m c4).ownBlock ≠ some (w.heap.size + 1) ∧ Hid (NestB w.heap.size wr A4 m c4 Y) ∧ Hid (BDrawn k (bxV Y)) ∧ p' ≤ p + 21 * k ∧ Rdr 80 wr g p' ∧ Hid (But w.heap.size g w wr) ∧ Hid (Lit wr (w.heap.size + 1) 6) ∧ w.heap.size + 1 < wr.heap.size) (fun _ i _ _ => 6 - (intOf i).toNat)
  case atStart => exact ⟨0, 0, p, _, _, [], by omega, rfl, rfl, Nat.le_refl _, by simp [Value.ownBlock], HN0.out, ⟨Nat.le_refl _, fun a h => by cases h⟩, by omega, (hr.alloc _).alloc _, Hb0.out, Hlit0.out, by simp⟩
  case round =>
    obtain ⟨k, m, p', A4, c4, Y, hk, rfl, rfl, hmk, hnb, hN, hdr, hp', hr2, hbut, hlit, hs2⟩ := hrel
    have hbs := hbut.out.size
    by_cases hlt : k < 6
    · go_wp2_with fail
      refine (pick_any g p' 2 _ hr2 (by omega) (by omega) (by omega)).mono ?_
      rintro e w3 ⟨⟨q, hq, rfl⟩, hr3, hb3⟩
      have hs3 := hb3.size
      have HN3 := hide (hN.out.but hb3 hg)
      have Hb3 := hide (hbut.out.trans (hb3.mono hbs))
      have Hlit3 := hide (hlit.out.but hb3 (by omega))
      clear hb3
      by_cases hq0 : q = 0
      rotate_left
      · have f0 : ((q : Int) == 0) = false := by rw [beq_eq_false_iff_ne]; omega
        clear hq0
        go_wp2_with fail
        go_roundw
        case rel => exact ⟨k + 1, m, p' + 1, A4, c4, Y, by omega, by go_num, rfl, by omega, hnb, HN3.out, hdr.out.more (by omega), by omega, hr3, Hb3.out, Hlit3.out, by omega⟩
        case measure => simp [intOf]; omega
      subst hq0
      go_wp2_with fail
      refine (ids_any g (p' + 1) _ hr3 (by omega)).mono ?_
      rintro e w6 ⟨v6, L, p6, rfl, ⟨A6, n6, c6, rfl, own6⟩, hL6, hp6, hr6, hb6⟩
      have hs6 := hb6.size
      have hlen6 : L.length = n6 := own_leni own6
      have HN6 := hide (HN3.out.but hb6 hg)
      have Hfr : Hid (∀ q, WBlk (.slice A4 m c4) Y q → q < w3.heap.size) := fun q hq => (HN3.out.lt hq).2
      have Hb6 := hide (Hb3.out.trans (hb6.mono Hb3.out.size))
      have Hlit6 := hide (Hlit3.out.but hb6 (by omega))
      have Own6 := hide own6
      clear own6 hb6
      obtain ⟨nm, hnm, hcn⟩ := Hlit6.out.cell hlt
      have hb36 := Hb3.out.size
      by_cases hn0 : n6 = 0
      · have f1 : ¬ ((0 : Int) < (n6 : Int)) := by omega
        clear hn0
        go_wp2_with fail
        go_roundw
        case rel => exact ⟨k + 1, m, p6, A4, c4, Y, by omega, by go_num, rfl, by omega, hnb, HN6.out, hdr.out.more (by omega), by omega, hr6, Hb6.out, Hlit6.out, by omega⟩
        case measure => simp [intOf]; omega
      have f1 : ((0 : Int) < (n6 : Int)) := by omega
      clear hn0
      go_wp2_with (first
       | (at_builtin
          refine wpList_append_rd _ rfl (.tmp 23) (.tmp 30) _ rfl w.heap.size 40 i2 _ 2 40 hUB hi2 hz0 hz1 hz2 rfl (by omega) (.slice A4 m c4) m (wcells Y) rfl (HN6.out.row.alloc _) (w6.heap.size + 1) (some ⟨w6.heap.size, 0, none⟩) 1 _ [Value.string nm, .slice A6 n6 c6] rfl (rd_two _ _ _ _) (by intro u hu; simp at hu; rcases hu with rfl | rfl <;> rfl) (by unfold maxLen; omega) (by omega) (by simp; omega) ?_
          intro v7 w7 own7 gr7 at7
          obtain ⟨A7, c7, e7, N7⟩ := NestB.snoc2 HN6.out Hfr.out Own6.out (by omega) own7 gr7 at7
          subst e7
          have HN7 := hide N7
          have Hr7 := hide ((hr6.alloc _).own gr7 (HN6.out.row.alloc _) hg)
          have Hb7 := hide ((Hb6.out.alloc (by omega) _).own gr7 (HN6.out.row.alloc _) (Nat.le_refl _) (by simp; omega))
          have Hlit7 : Hid (Lit w7 (w.heap.size + 1) 6) := by
            obtain ⟨cs, l1, l2, l3⟩ := Hlit6.out
            exact ⟨cs, (l1.alloc _).own gr7 hnb, l2, l3⟩
          have hs7 : w.heap.size + 1 < w7.heap.size := by have h := gr7.size; simp at h; omega
          have hnb7 : (Value.slice A7 (m + 1) c7).ownBlock ≠ some (w.heap.size + 1) := by
            rcases at7 with e | e
            · rw [e]; exact hnb
            · rw [e]; intro h; simp at h; omega
          clear gr7 at7 own7 N7)
       | fail)
      go_roundw
      case rel => exact ⟨k + 1, m + 1, p6, A7, c7, _, by omega, by go_num, rfl, by omega, hnb7, HN7.out, by rw [bxV_app]; exact hdr.out.snoc hnm hL6, by omega, Hr7.out, Hb7.out, Hlit7.out, hs7⟩
      case measure => simp [intOf]; omega
    · by_cases hm0 : m = 0
      · have f1 : ¬ ((0 : Int) < (m : Int)) := by omega
        clear hm0
        go_wp2_with fail
        go_ret
        exact ⟨_, _, _, rfl, Y, hN.out, hdr.out.more hk, p', by omega, hr2, hbut.out⟩
      have f1 : ((0 : Int) < (m : Int)) := by omega
      go_wp2_with fail
      refine (pick_any g p' 40 _ hr2 (by omega) (by omega) (by omega)).mono ?_
      rintro e w3 ⟨⟨q, hq, rfl⟩, hr3, hb3⟩
      have hs3 := hb3.size
      have HN3 := hide (hN.out.but hb3 hg)
      have Hb3 := hide (hbut.out.trans (hb3.mono hbs))
      clear hb3
      by_cases hq0 : q = 0
      rotate_left
      · have f0 : ((q : Int) == 0) = false := by rw [beq_eq_false_iff_ne]; omega
        clear hq0
        go_wp2_with fail
        go_ret
        exact ⟨_, _, _, Y, p' + 1, rfl, HN3.out, hdr.out.more hk, by omega, hr3, Hb3.out⟩
      subst hq0
      obtain ⟨gX, capX, eX, hgX, hgX2⟩ := HN3.out.row.form (by omega)
      injection eX with eX1 _ eX3
      subst eX1 eX3
      have hly := HN3.out.len
      obtain ⟨y, hy⟩ : ∃ y, Y[0]? = some y := ⟨Y[0]'(by omega), List.getElem?_eq_getElem _⟩
      have hba := (Below.refl w3.heap.size w3).alloc (Nat.le_refl _) (.cells #[] 3)
      have hc1 : (w3.alloc (.cells #[] 3)).cell? ⟨gX, 1, none⟩ = some y.2.2 := (hba.cell (p := ⟨gX, 1, none⟩) hgX2).trans ((HN3.out.row.cellAt 1 (by omega)).trans (wcells_at hy).2)
      have hf1 : (w3.alloc (.cells #[] 3)).frozen? ⟨gX, 1, none⟩ = false := (hba.frozen (p := ⟨gX, 1, none⟩) hgX2).trans (HN3.out.row.frozenAt 1)
      have hc1' : w3.cell? ⟨gX, 1, none⟩ = some y.2.2 := (HN3.out.row.cellAt 1 (by omega)).trans (wcells_at hy).2
      have hf1' : w3.frozen? ⟨gX, 1, none⟩ = false := HN3.out.row.frozenAt 1
      have hb3s := Hb3.out.size
      have hN5 := HN3.out.ids0 hy (by omega)
      have hgr : (w3.alloc (.cells #[] 3)).grownBy ((w3.alloc (.cells #[] 3)).setCell ⟨gX, 1, none⟩ (.slice (some ⟨w3.heap.size, 0, none⟩) 0 0)) (some gX) := ⟨rfl, rfl, rfl, by simp, fun k _ hk => heap_setCell_other _ ⟨gX, 1, none⟩ k _ (fun e => hk (by simp [e]))⟩
      have hB5 := Hb3.out.trans ((But.of_below (g := g) (hba.mono (by omega))).trans ⟨hgr.os, hgr.tape, hgr.output, hgr.size, fun q hq _ => hgr.block q (by simp; omega) (fun e => by injection e; omega)⟩)
      have hR5 := (hr3.alloc (.cells #[] 3)).below (B := g + 1) ⟨hgr.os, hgr.tape, hgr.output, hgr.size, fun q hq => hgr.block q (by have := hr3.lt; simp; omega) (fun e => by injection e; omega)⟩ (by omega)
      rw [World.setCell_alloc_past _ _ _ _ hgX2] at hN5 hB5 hR5
      have HN5 := hide hN5
      have HB5 := hide hB5
      have HR5 := hide hR5
      have Hd5 := hide (bxV_set0 (u := .slice (some ⟨w3.heap.size, 0, none⟩) 0 0) hy (hdr.out.more hk))
      clear hN5 hB5 hR5 hgr hba
      go_wp2_with fail
      go_ret
      exact ⟨_, _, _, _, p' + 1, rfl, HN5.out, Hd5.out, by omega, HR5.out, HB5.out⟩

/-- Boxes were drawn. -/
def DrawnB (w : World) (v : Value) (X : List Bx) (w' : World) : Prop := ∃ A n c, v = .slice A n c ∧ Bxs w' w'.heap.size A n X ∧ n ≤ c ∧ c ≤ maxLen ∧ BDrawn 6 X ∧ Below w.heap.size w w'
theorem DrawnB.mk {w w1 w2 : World} {A : Option Addr} {n c : Nat} {Y : List BxV} (h : NestB w1.heap.size w2 A n c Y) (hd : BDrawn 6 (bxV Y)) (hb : Below w.heap.size w w1) (hb2 : But w1.heap.size w.heap.size w1 w2) (hg : w.heap.size < w1.heap.size) : DrawnB w (.slice A n c) (bxV Y) w2 :=
  ⟨A, n, c, rfl, h.bxs, (own_cap h.row).1, (own_cap h.row).2, hd, hb.trans (hb2.below.mono (by omega))⟩

set_option maxHeartbeats 1000000 in
set_option maxRecDepth 100000 in
theorem d_BoxPut (A : Option Addr) (n c : Nat) (w : World) (hc : Code w w.heap.size A n) (hnc : n ≤ c) (hn : n ≤ 1048576) :
    Calls Try.prog 19 #[.slice A n c] w fun e w' => ∃ A1 n1 c1 L i, e = .returned (.tuple #[.slice A1 n1 c1, .int .i64 i]) ∧ Ints w' w'.heap.size A1 n1 L ∧ n1 ≤ c1 ∧ n1 ≤ 6 ∧ Below w.heap.size w w' := by
  go_enter Try.func19, Try.ntmps19
  go_wp2_with fail
  refine (open_any A n c _ hc hnc hn).mono ?_
  rintro e w1 ⟨rfl, hr1, hb1⟩
  have hlt1 := hr1.lt
  go_wp2_with fail
  refine (ids_any w.heap.size 0 _ hr1 (by omega)).mono ?_
  rintro e w2 ⟨v, L, p2, rfl, ⟨A1, n1, c1, rfl, own2⟩, hL6, hp2, hr2, hb2⟩
  have hs2 := hb2.size
  have hlen := own_leni own2
  have Own2 := hide own2
  have Hb2 := hide hb2
  have Hb1 := hide hb1
  clear own2 hb2 hb1
  go_wp2_with fail
  refine (pick_any w.heap.size p2 45 _ hr2 (by omega) (by omega) (by omega)).mono ?_
  rintro e w3 ⟨⟨k3, hk3, rfl⟩, hr3, hb3⟩
  have Own3 := hide (own_but Own2.out hb3 hlt1)
  have Hb3 := hide (Hb2.out.trans (hb3.mono hs2))
  clear hb3
  go_wp2_with fail
  refine (pick_any w.heap.size (p2 + 1) 30 _ hr3 (by omega) (by omega) (by omega)).mono ?_
  rintro e w4 ⟨⟨k4, hk4, rfl⟩, hr4, hb4⟩
  have Own4 := hide (own_but Own3.out hb4 hlt1)
  have Hb4 := hide (Hb3.out.trans (hb4.mono Hb3.out.size))
  clear hb4
  go_wp2_with fail
  go_ret2
  exact ⟨_, _, _, L, _, rfl, Ints.of_own Own4.out, (own_cap Own4.out).1, by omega, Hb1.out.trans (Hb4.out.below.mono (by omega))⟩

set_option maxHeartbeats 1000000 in
set_option maxRecDepth 100000 in
theorem d_BoxesPut (A : Option Addr) (n c : Nat) (w : World) (hc : Code w w.heap.size A n) (hnc : n ≤ c) (hn : n ≤ 1048576) :
    Calls Try.prog 24 #[.slice A n c] w fun e w' => ∃ v X s i, e = .returned (.tuple #[v, .string s, .int .i64 i]) ∧ DrawnB w v X w' ∧ s.size ≤ 5 := by
  go_enter Try.func24, Try.ntmps24
  go_wp2_with fail
  refine (open_any A n c _ hc hnc hn).mono ?_
  rintro e w1 ⟨rfl, hr1, hb1⟩
  have hlt1 := hr1.lt
  go_wp2_with fail
  refine (boxes_any w.heap.size 0 _ hr1 (by omega)).mono ?_
  rintro e w2 ⟨A1, n1, c1, Y, p2, rfl, hN, hdr, hp2, hr2, hb2⟩
  have hs2 := hb2.size
  have HN2 := hide hN
  have Hdr := hide hdr
  have Hb2 := hide hb2
  have Hb1 := hide hb1
  clear hN hb2 hb1 hdr
  go_wp2_with fail
  refine (name_any w.heap.size p2 _ hr2 (by omega)).mono ?_
  rintro e w3 ⟨⟨s, hs, rfl⟩, hr3, hb3⟩
  have HN3 := hide (HN2.out.but hb3 hlt1)
  have Hb3 := hide (Hb2.out.trans (hb3.mono hs2))
  clear hb3
  go_wp2_with fail
  refine (pick_any w.heap.size (p2 + 2) 45 _ hr3 (by omega) (by omega) (by omega)).mono ?_
  rintro e w4 ⟨⟨k4, hk4, rfl⟩, hr4, hb4⟩
  have HN4 := hide (HN3.out.but hb4 hlt1)
  have Hb4 := hide (Hb3.out.trans (hb4.mono Hb3.out.size))
  clear hb4
  go_wp2_with fail
  refine (pick_any w.heap.size (p2 + 2 + 1) 30 _ hr4 (by omega) (by omega) (by omega)).mono ?_
  rintro e w5 ⟨⟨k5, hk5, rfl⟩, hr5, hb5⟩
  have HN5 := hide (HN4.out.but hb5 hlt1)
  have Hb5 := hide (Hb4.out.trans (hb5.mono Hb4.out.size))
  clear hb5
  go_wp2_with fail
  go_ret3
  exact ⟨_, bxV Y, s, _, rfl, DrawnB.mk HN5.out Hdr.out Hb1.out Hb5.out hlt1, hs⟩

set_option maxHeartbeats 1000000 in
set_option maxRecDepth 100000 in
theorem d_BoxesGet (A : Option Addr) (n c : Nat) (w : World) (hc : Code w w.heap.size A n) (hnc : n ≤ c) (hn : n ≤ 1048576) :
    Calls Try.prog 30 #[.slice A n c] w fun e w' => ∃ v X s, e = .returned (.tuple #[v, .string s]) ∧ DrawnB w v X w' ∧ s.size ≤ 5 := by
  go_enter Try.func30, Try.ntmps30
  go_wp2_with fail
  refine (open_any A n c _ hc hnc hn).mono ?_
  rintro e w1 ⟨rfl, hr1, hb1⟩
  have hlt1 := hr1.lt
  go_wp2_with fail
  refine (boxes_any w.heap.size 0 _ hr1 (by omega)).mono ?_
  rintro e w2 ⟨A1, n1, c1, Y, p2, rfl, hN, hdr, hp2, hr2, hb2⟩
  have hs2 := hb2.size
  have HN2 := hide hN
  have Hdr := hide hdr
  have Hb2 := hide hb2
  have Hb1 := hide hb1
  clear hN hb2 hb1 hdr
  go_wp2_with fail
  refine (name_any w.heap.size p2 _ hr2 (by omega)).mono ?_
  rintro e w3 ⟨⟨s, hs, rfl⟩, hr3, hb3⟩
  go_wp2_with fail
  go_ret2
  exact ⟨_, bxV Y, s, rfl, DrawnB.mk (HN2.out.but hb3 hlt1) Hdr.out Hb1.out (Hb2.out.trans (hb3.mono hs2)) hlt1, hs⟩

set_option maxHeartbeats 1000000 in
set_option maxRecDepth 100000 in
theorem d_BoxesValid (A : Option Addr) (n c : Nat) (w : World) (hc : Code w w.heap.size A n) (hnc : n ≤ c) (hn : n ≤ 1048576) :
    Calls Try.prog 32 #[.slice A n c] w fun e w' => ∃ v X, e = .returned v ∧ DrawnB w v X w' := by
  go_enter Try.func32, Try.ntmps32
  go_wp2_with fail
  refine (open_any A n c _ hc hnc hn).mono ?_
  rintro e w1 ⟨rfl, hr1, hb1⟩
  have hlt1 := hr1.lt
  go_wp2_with fail
  refine (boxes_any w.heap.size 0 _ hr1 (by omega)).mono ?_
  rintro e w2 ⟨A1, n1, c1, Y, p2, rfl, hN, hdr, hp2, hr2, hb2⟩
  go_wp2_with fail
  go_ret
  exact ⟨_, bxV Y, rfl, DrawnB.mk hN hdr hb1 hb2 hlt1⟩
end Go.Proofs.Ytfncmkmhdddmiaa
