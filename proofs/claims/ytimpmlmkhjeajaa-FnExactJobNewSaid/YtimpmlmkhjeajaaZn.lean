/- Texts joined: Nest, ExA, ExA2, ExA3. -/
import Derived.Test.YtimpmlmkhjeajaaZc
import Derived.Test.YtimpmlmkhjeajaaZm
import Derived.Test.YtimpmlmkhjeajaaZd

/- Accounts in memory of the call's own, each list of followers in a block of its own. -/
set_option linter.unusedVariables false
set_option linter.unusedSimpArgs false
namespace Go.Proofs.Ytimpmlmkhjeajaa
open Go.RowKit

/-- An account and where its followers are. -/
abbrev AccV := ByteArray × List ByteArray × Value
def accsV (Y : List AccV) : List Acc := Y.map fun y => (y.1, y.2.1)
/-- The cells of accounts. -/
def vcells (Y : List AccV) : List Value := Y.flatMap fun y => [.string y.1, y.2.2]
theorem vcells_cons (y : AccV) (Y : List AccV) : vcells (y :: Y) = [.string y.1, y.2.2] ++ vcells Y := by simp [vcells]
theorem vcells_app (X Y : List AccV) : vcells (X ++ Y) = vcells X ++ vcells Y := by simp [vcells]
theorem vcells_len (Y : List AccV) : (vcells Y).length = Y.length * 2 := by
  induction Y with
  | nil => rfl
  | cons a X ih => rw [vcells_cons, List.length_append, ih]; simp; omega
theorem vcells_at : ∀ {X : List AccV} {j : Nat} {a : AccV}, X[j]? = some a → (vcells X)[j * 2]? = some (.string a.1) ∧ (vcells X)[j * 2 + 1]? = some a.2.2
  | [], j, a, h => by simp at h
  | b :: X, 0, a, h => by simp at h; subst h; rw [vcells_cons]; simp
  | b :: X, j + 1, a, h => by
    have h' : X[j]? = some a := by simpa using h
    obtain ⟨h1, h2⟩ := vcells_at h'
    rw [vcells_cons]
    refine ⟨?_, ?_⟩
    · rw [List.getElem?_append_right (by simp; omega), show (j + 1) * 2 - [Value.string b.1, b.2.2].length = j * 2 by simp; omega]; exact h1
    · rw [List.getElem?_append_right (by simp; omega), show (j + 1) * 2 + 1 - [Value.string b.1, b.2.2].length = j * 2 + 1 by simp; omega]; exact h2
theorem vcells_set0 : ∀ {X : List AccV} {k : Nat} {a : AccV} (s : ByteArray), X[k]? = some a → (vcells X).set (k * 2) (.string s) = vcells (X.set k (s, a.2))
  | [], k, a, v, h => by simp at h
  | b :: X, 0, a, v, h => by simp at h; subst h; rw [vcells_cons, List.set_cons_zero, vcells_cons]; rfl
  | b :: X, k + 1, a, v, h => by
    have h' : X[k]? = some a := by simpa using h
    rw [vcells_cons, List.set_cons_succ, vcells_cons, ← vcells_set0 v h', show (k + 1) * 2 = k * 2 + 1 + 1 by omega]
    rfl
theorem accsV_len (Y : List AccV) : (accsV Y).length = Y.length := List.length_map _
theorem accsV_at {Y : List AccV} {k : Nat} {a : Acc} (h : (accsV Y)[k]? = some a) : ∃ u, Y[k]? = some (a.1, a.2, u) := by
  unfold accsV at h
  rw [List.getElem?_map, Option.map_eq_some_iff] at h
  obtain ⟨⟨n, F, u⟩, h1, rfl⟩ := h
  exact ⟨u, h1⟩

/-- The blocks of such a list. -/
def VBlk (v : Value) (Y : List AccV) (b : Nat) : Prop := v.ownBlock = some b ∨ ∃ y ∈ Y, y.2.2.ownBlock = some b
/-- .. the row, the followers; blocks differ. -/
structure NestY (base : Nat) (w : World) (A : Option Addr) (n c : Nat) (Y : List AccV) : Prop where
  row : w.ownsRow base 79 2 (.slice A n c) n (vcells Y)
  fol : ∀ y ∈ Y, w.ownsRow base 9 1 y.2.2 y.2.1.length (y.2.1.map Value.string)
  far : ∀ y ∈ Y, ∀ b, y.2.2.ownBlock = some b → (Value.slice A n c).ownBlock ≠ some b
  two : Y.Pairwise fun y z => ∀ b, y.2.2.ownBlock = some b → z.2.2.ownBlock ≠ some b
def Nest (base : Nat) (w : World) (A : Option Addr) (n c : Nat) (X : List Acc) : Prop := ∃ Y, accsV Y = X ∧ NestY base w A n c Y
section
variable {base : Nat} {w w' : World} {A : Option Addr} {n c : Nat} {Y : List AccV} {X : List Acc}
theorem NestY.len (h : NestY base w A n c Y) : Y.length = n := by have := h.row.1; rw [vcells_len] at this; omega
theorem NestY.lt (h : NestY base w A n c Y) {b : Nat} (hb : VBlk (.slice A n c) Y b) : base ≤ b ∧ b < w.heap.size := by
  rcases hb with hb | ⟨y, hy, hb⟩
  · exact h.row.lt b hb
  · exact (h.fol y hy).lt b hb
/-- Kept where none of its blocks is touched. -/
theorem NestY.kept (h : NestY base w A n c Y) (hos : w'.os = w.os) (htp : w'.tape = w.tape) (hout : w'.output = w.output) (hs : w.heap.size ≤ w'.heap.size) (hk : ∀ b, VBlk (.slice A n c) Y b → w'.heap[b]? = w.heap[b]?) : NestY base w' A n c Y := by
  have key : ∀ {e : TypeId} {size m : Nat} {v : Value} {xs : List Value}, w.ownsRow base e size v m xs → (∀ b, v.ownBlock = some b → w'.heap[b]? = w.heap[b]?) → w'.ownsRow base e size v m xs := by
    intro e size m v xs ho hb
    refine ⟨ho.1, ?_⟩
    rcases ho.2 with h | ⟨g, cap, cur, e1, e2, e3, e4⟩
    · exact .inl h
    · exact .inr ⟨g, cap, cur, e1, e2, by rw [hb g (by rw [e1]; rfl)]; exact e3, e4⟩
  exact ⟨key h.row fun b hb => hk b (.inl hb), fun y hy => key (h.fol y hy) fun b hb => hk b (.inr ⟨y, hy, hb⟩), h.far, h.two⟩
theorem NestY.below (h : NestY base w A n c Y) (hb : Below w.heap.size w w') : NestY base w' A n c Y :=
  h.kept hb.os hb.tape hb.output hb.size fun b hb' => hb.block b (h.lt hb').2
theorem NestY.accs (h : NestY base w A n c Y) : Accs w w.heap.size A n (accsV Y) := by
  refine ⟨by rw [accsV_len, h.len], fun hn => ?_⟩
  obtain ⟨g, cap, hv, hg, hlt⟩ := h.row.form hn
  injection hv with hA _ hc
  subst hA hc
  refine ⟨g, 0, rfl, hlt, fun j a ha => ?_⟩
  obtain ⟨u, hu⟩ := accsV_at ha
  have hj : j < n := by have := (List.getElem?_eq_some_iff.1 hu).1; have := h.len; omega
  have hp := vcells_at hu
  refine ⟨by rw [Nat.zero_add, h.row.cellAt (j * 2) (by omega)]; exact hp.1, u, by rw [Nat.zero_add, h.row.cellAt (j * 2 + 1) (by omega)]; exact hp.2, ?_⟩
  exact (Fls.of_own (h.fol _ (List.mem_of_getElem? hu))).more fun b hb => hb.2.1
end
/-- All blocks but those from base on below top are as they were. -/
structure Mid (base top : Nat) (w w' : World) : Prop where
  os : w'.os = w.os
  tape : w'.tape = w.tape
  output : w'.output = w.output
  size : w.heap.size ≤ w'.heap.size
  block : ∀ k, k < w.heap.size → (k < base ∨ top ≤ k) → w'.heap[k]? = w.heap[k]?
theorem Mid.refl (base top : Nat) (w : World) : Mid base top w w := ⟨rfl, rfl, rfl, Nat.le_refl _, fun _ _ _ => rfl⟩
theorem Mid.trans {base top : Nat} {a b c : World} (h : Mid base top a b) (k : Mid base top b c) : Mid base top a c :=
  ⟨k.os.trans h.os, k.tape.trans h.tape, k.output.trans h.output, Nat.le_trans h.size k.size, fun i hi hn => (k.block i (Nat.lt_of_lt_of_le hi h.size) hn).trans (h.block i hi hn)⟩
theorem Mid.of_below {base top : Nat} {a b : World} (h : Below a.heap.size a b) : Mid base top a b := ⟨h.os, h.tape, h.output, h.size, fun i hi _ => h.block i hi⟩
theorem Mid.of_grown {base top : Nat} {a b : World} {row : Option Nat} (h : a.grownBy b row) (hr : ∀ g, row = some g → base ≤ g ∧ g < top) : Mid base top a b :=
  ⟨h.os, h.tape, h.output, h.size, fun i hi hn => h.block i hi (fun e => by have := hr i e.symm; omega)⟩
theorem Mid.below {base top B : Nat} {w a b : World} (h : Mid base top a b) (hw : Below B w a) (hB : B ≤ base) (hs : B ≤ a.heap.size) : Below B w b :=
  hw.trans ⟨h.os, h.tape, h.output, h.size, fun k hk => h.block k (by omega) (.inl (by omega))⟩
theorem Mid.nest {base top base' : Nat} {a b : World} {A : Option Addr} {n c : Nat} {Y : List AccV} (h : Mid base top a b) (hY : NestY base' a A n c Y) (ht : top ≤ base') : NestY base' b A n c Y :=
  hY.kept h.os h.tape h.output h.size fun k hk => h.block k (hY.lt hk).2 (.inr (by have := (hY.lt hk).1; omega))
theorem Mid.row {base top base' : Nat} {a b : World} {e : TypeId} {size m : Nat} {v : Value} {xs : List Value} (h : Mid base top a b) (ho : a.ownsRow base' e size v m xs) (ht : top ≤ base') : b.ownsRow base' e size v m xs := by
  refine ⟨ho.1, ?_⟩
  rcases ho.2 with h1 | ⟨g, cap, cur, e1, e2, e3, e4⟩
  · exact .inl h1
  · exact .inr ⟨g, cap, cur, e1, e2, by rw [h.block g ((ho.lt g (by rw [e1]; rfl)).2) (.inr (by omega))]; exact e3, e4⟩
end Go.Proofs.Ytimpmlmkhjeajaa

/- Words of the exact laws of accounts: sizes, copies, equality. -/
set_option linter.unusedVariables false
set_option linter.unusedSimpArgs false
namespace Go.Proofs.Ytimpmlmkhjeajaa
open Go.RowKit Go.BigFrame

/-- A size is returned: below 0, or all is small; m things of it are used up. -/
def SzR (m : Nat) (left : Nat) (e : Ending) : Prop := (e = .returned (.int .i64 (-1))) ∨ ∃ r : Nat, e = .returned (.int .i64 r) ∧ r + m ≤ left
set_option maxHeartbeats 1000000 in
theorem e_szS (A : Option Addr) (n c : Nat) (L : List ByteArray) (left : Nat) (w : World) (hL : Strs w w.heap.size A n L) (hS : Small L) (hn : n ≤ maxLen) (hl2 : left ≤ 1048576) :
    Calls Try.prog 89 #[.slice A n c, .int .i64 left] w fun e w' => SzR n left e ∧ w = w' := by
  unfold maxLen at hn
  have hl := hide hL.1
  have HL := hide hL.2
  have HS := hide hS
  clear hL hS
  by_cases h0 : left < n
  · have hlt : (left : Int) < (n : Int) := by omega
    go_enter Try.func89, Try.ntmps89
    go_wp2_with fail
    go_ret
    exact ⟨.inl rfl, rfl⟩
  obtain ⟨d, hd⟩ : ∃ d, left = d + n := ⟨left - n, by omega⟩
  have hneg : ¬ ((left : Int) - (n : Int) < 0) := by omega
  have Hd := hide hd
  clear hd h0
  go_enter Try.func89, Try.ntmps89
  go_wp2_with fail
  go_loop [1, 5] (fun r i => ∃ k x : Nat, k ≤ n ∧ i = .int .i64 k ∧ r = .int .i64 x ∧ x ≤ d) (fun _ i => n - (intOf i).toNat)
  case atStart => exact ⟨0, d, Nat.zero_le _, rfl, by have := Hd.out; go_num, Nat.le_refl _⟩
  case round =>
    obtain ⟨k, x, hk, rfl, rfl, hx⟩ := hrel
    have hx2 : x ≤ 1048576 := by have := Hd.out; omega
    by_cases hlt : k < n
    · obtain ⟨g, off, rfl, hb, hc⟩ := HL.out (by omega)
      obtain ⟨t, ht⟩ : ∃ t, L[k]? = some t := ⟨L[k]'(by have := hl.out; omega), List.getElem?_eq_getElem _⟩
      have hck := hc k t ht
      have hts := HS.out t (List.mem_of_getElem? ht)
      unfold maxLen at hts
      clear ht hc
      by_cases hxt : x < t.size
      · have hng : (x : Int) - (t.size : Int) < 0 := by omega
        go_wp2_with fail
        go_ret
        exact ⟨.inl rfl, rfl⟩
      · have hng : ¬ ((x : Int) - (t.size : Int) < 0) := by omega
        go_wp2_with fail
        go_round
        case rel => exact ⟨k + 1, x - t.size, by omega, by go_num, by go_num, by omega⟩
        case measure => simp [intOf]; omega
    · go_wp2_with fail
      go_ret
      exact ⟨.inr ⟨x, rfl, by have := Hd.out; omega⟩, rfl⟩

set_option maxHeartbeats 1000000 in
theorem e_szA1 (nm : ByteArray) (A : Option Addr) (n c : Nat) (F : List ByteArray) (x : Nat) (w : World) (hF : Strs w w.heap.size A n F) (hS : Small F) (hn : n ≤ maxLen) (hs : nm.size ≤ maxLen) (hx : x ≤ 1048576) :
    Calls Try.prog 91 #[.agg #[.string nm, .slice A n c], .int .i64 x] w fun e w' => SzR n x e ∧ Below w.heap.size w w' := by
  unfold maxLen at hs
  have HF : ∀ T, Hid (Strs (w.alloc (.cells #[.string nm, .slice A n c] T)) (w.alloc (.cells #[.string nm, .slice A n c] T)).heap.size A n F) := fun T => hide (hF.on ((Below.refl _ _).alloc (Nat.le_refl _) _))
  have HS := hide hS
  have HN := hide hn
  clear hF hS hn
  by_cases h : x < nm.size
  · have h2 : (x : Int) - (nm.size : Int) < 0 := by omega
    go_enter Try.func91, Try.ntmps91
    go_wp2_with fail
    go_ret
    exact ⟨.inl rfl, (Below.refl _ _).alloc (Nat.le_refl _) _⟩
  · have h2 : ¬ ((x : Int) - (nm.size : Int) < 0) := by omega
    obtain ⟨y, hy⟩ : ∃ y : Nat, y = x - nm.size := ⟨_, rfl⟩
    have hy2 : (x : Int) - (nm.size : Int) = (y : Int) := by omega
    have hy3 : y ≤ x := by omega
    clear hy h
    go_enter Try.func91, Try.ntmps91
    go_wp2_with fail
    refine (e_szS A n c F y _ (HF _).out HS.out HN.out (by omega)).mono ?_
    rintro e w' ⟨h, rfl⟩
    rcases h with rfl | ⟨r, rfl, hr⟩
    · go_wp2_with fail
      go_ret
      exact ⟨.inl rfl, (Below.refl _ _).alloc (Nat.le_refl _) _⟩
    · have hr0 : ¬ ((r : Int) < 0) := by omega
      go_wp2_with fail
      go_ret
      exact ⟨.inr ⟨r, rfl, by omega⟩, (Below.refl _ _).alloc (Nat.le_refl _) _⟩

/-- How many followers there are. -/
def totF (X : List Acc) : Nat := (X.map fun a => a.2.length).sum
theorem totF_take {X : List Acc} {k : Nat} {a : Acc} (h : X[k]? = some a) : totF (X.take (k + 1)) = totF (X.take k) + a.2.length := by
  unfold totF; rw [List.take_add_one, h]; simp
theorem totF_le {X : List Acc} {k : Nat} : totF (X.take k) ≤ totF X := by
  have e : totF X = totF (X.take k) + totF (X.drop k) := by
    unfold totF
    conv => lhs; rw [← List.take_append_drop k X]
    rw [List.map_append, List.sum_append]
  omega
set_option maxHeartbeats 1000000 in
theorem e_szA (A : Option Addr) (n c : Nat) (X : List Acc) (left : Nat) (w : World) (hX : Accs w w.heap.size A n X) (hS : ASmall X) (hn : n ≤ maxLen) (hl2 : left ≤ 1048576) :
    Calls Try.prog 43 #[.slice A n c, .int .i64 left] w fun e w' => SzR (n + totF X) left e ∧ Below w.heap.size w w' := by
  unfold maxLen at hn
  have hl := hide hX.1
  have HX := hide hX
  have HS := hide hS
  clear hX hS
  by_cases h0 : left < n
  · have hlt : (left : Int) < (n : Int) := by omega
    go_enter Try.func43, Try.ntmps43
    go_wp2_with fail
    go_ret
    exact ⟨.inl rfl, Below.refl _ _⟩
  obtain ⟨d, hd⟩ : ∃ d, left = d + n := ⟨left - n, by omega⟩
  have hneg : ¬ ((left : Int) - (n : Int) < 0) := by omega
  have Hd := hide hd
  clear hd h0
  go_enter Try.func43, Try.ntmps43
  go_wp2_with fail
  go_loopw [1, 5] (fun r i wr => ∃ k x : Nat, k ≤ n ∧ i = .int .i64 k ∧ r = .int .i64 x ∧ Hid (x + totF (X.take k) ≤ d) ∧ Hid (Below w.heap.size w wr)) (fun _ i _ => n - (intOf i).toNat)
  case atStart => exact ⟨0, d, Nat.zero_le _, rfl, by have := Hd.out; go_num, by simp [Hid, totF], Below.refl _ _⟩
  case round =>
    obtain ⟨k, x, hk, rfl, rfl, hx, hbr⟩ := hrel
    by_cases hlt : k < n
    · obtain ⟨a, ha⟩ : ∃ a, X[k]? = some a := ⟨X[k]'(by have := hl.out; omega), List.getElem?_eq_getElem _⟩
      obtain ⟨g, off, A', n', c', rfl, hg, hc0, hc1, hn', hm', hf⟩ := (HX.out.below hbr.out).at' ha
      have hsm := HS.out a (List.mem_of_getElem? ha)
      have Hsm := hide hsm
      have hsz := hbr.out.size
      have HF := hide (hf.strs.more hsz)
      have hE := hide (totF_take ha)
      have hlen := hide (HF.out.1)
      clear ha hf hsm
      go_wp2_with fail
      refine (e_szA1 a.1 A' n' c' a.2 x _ HF.out Hsm.out.2 hm' Hsm.out.1 (by have := Hd.out; have := hx.out; omega)).mono ?_
      rintro e w2 ⟨h, hb2⟩
      have Hb2 := hide (hbr.out.trans (hb2.mono hsz))
      clear hb2
      rcases h with rfl | ⟨r, rfl, hr⟩
      · go_wp2_with fail
        go_ret
        exact ⟨.inl rfl, Hb2.out⟩
      · have hr0 : ¬ ((r : Int) < 0) := by omega
        have Hr := hide hr
        clear hr
        go_wp2_with fail
        go_roundw
        case rel => exact ⟨k + 1, r, by omega, by go_num, by go_num, by show _ ≤ _; have h1 := hE.out; have h2 := hx.out; have h3 := Hr.out; have h4 := hlen.out; omega, Hb2.out⟩
        case measure => simp [intOf]; omega
    · have hR : X.take k = X := List.take_of_length_le (by have := hl.out; omega)
      have h2 := hx.out
      rw [hR] at h2
      have H2 := hide h2
      clear hR h2
      go_wp2_with fail
      go_ret
      exact ⟨.inr ⟨x, rfl, by have := Hd.out; have := H2.out; omega⟩, hbr.out⟩

set_option maxHeartbeats 1000000 in
theorem e_toA1 (nm : ByteArray) (A : Option Addr) (n c : Nat) (F : List ByteArray) (w : World) (hF : Strs w w.heap.size A n F) (hn : n ≤ 1048576) :
    Calls Try.prog 92 #[.agg #[.string nm, .slice A n c]] w fun e w' => ∃ b, e = .returned (.agg #[.string nm, .slice (some ⟨b, 0, none⟩) n n]) ∧ w'.ownsRow w.heap.size 9 1 (.slice (some ⟨b, 0, none⟩) n n) n (F.map Value.string) ∧ Below w.heap.size w w' := by
  have hb3 : ∀ T S U cs ds es, Below w.heap.size w (((w.alloc (.cells cs T)).alloc (.cells ds S)).alloc (.cells es U)) := fun T S U cs ds es => (((Below.refl _ _).alloc (Nat.le_refl _) _).alloc (by simp) _).alloc (by simp; omega) _
  have Hb3 := hide hb3
  have HF := hide hF
  clear hb3 hF
  go_enter Try.func92, Try.ntmps92
  go_wp2_with fail
  have B1 : Blk (((w.alloc (.cells #[.string nm, .slice A n c] 116)).alloc (.cells #[.string { data := #[] }, .slice none 0 0] 79)).alloc (.cells #[.string nm, .slice none 0 0] 79)) (w.heap.size + 1) 79 #[.string { data := #[] }, .slice none 0 0] := by
    have h := (Blk.new (w.alloc (.cells #[.string nm, .slice A n c] 116)) 79 #[.string { data := #[] }, .slice none 0 0]).alloc (.cells #[.string nm, .slice none 0 0] 79)
    rw [World.size_alloc] at h
    exact h
  have B2 : Blk (((w.alloc (.cells #[.string nm, .slice A n c] 116)).alloc (.cells #[.string { data := #[] }, .slice none 0 0] 79)).alloc (.cells #[.string nm, .slice none 0 0] 79)) (w.heap.size + 1 + 1) 79 #[.string nm, .slice none 0 0] := by
    have h := Blk.new ((w.alloc (.cells #[.string nm, .slice A n c] 116)).alloc (.cells #[.string { data := #[] }, .slice none 0 0] 79)) 79 #[.string nm, .slice none 0 0]
    rw [World.size_alloc, World.size_alloc] at h
    exact h
  have hs3 : (((w.alloc (.cells #[.string nm, .slice A n c] 116)).alloc (.cells #[.string { data := #[] }, .slice none 0 0] 79)).alloc (.cells #[.string nm, .slice none 0 0] 79)).heap.size = w.heap.size + 3 := by simp
  have Hb03 := hide (Hb3.out 116 79 79 #[.string nm, .slice A n c] #[.string { data := #[] }, .slice none 0 0] #[.string nm, .slice none 0 0])
  have HB1 := hide B1
  have HB2 := hide B2
  have Hs3 := hide hs3
  clear B1 B2 hs3 Hb3
  generalize ((w.alloc (.cells #[.string nm, .slice A n c] 116)).alloc (.cells #[.string { data := #[] }, .slice none 0 0] 79)).alloc (.cells #[.string nm, .slice none 0 0] 79) = w3 at *
  refine (e_to A n c F _ (HF.out.on Hb03.out) hn).mono ?_
  rintro e w4 ⟨rfl, own4, hb4⟩
  rw [Hs3.out] at own4 ⊢
  have hs4 := (own4.lt _ rfl).2
  have H1 := hide (HB1.out.below hb4 (by have := Hs3.out; omega))
  have H2 := hide (HB2.out.below hb4 (by have := Hs3.out; omega))
  have hc10 : w4.cell? ⟨w.heap.size + 1, 0, none⟩ = some (.string { data := #[] }) := H1.out.cell 0
  have hc11 : w4.cell? ⟨w.heap.size + 1, 1, none⟩ = some (.slice none 0 0) := H1.out.cell 1
  have hf10 : w4.frozen? ⟨w.heap.size + 1, 0, none⟩ = false := H1.out.frozen 0
  have hf11 : w4.frozen? ⟨w.heap.size + 1, 1, none⟩ = false := H1.out.frozen 1
  have hc20 : w4.cell? ⟨w.heap.size + 1 + 1, 0, none⟩ = some (.string nm) := H2.out.cell 0
  have hc21 : w4.cell? ⟨w.heap.size + 1 + 1, 1, none⟩ = some (.slice none 0 0) := H2.out.cell 1
  have hf21 : w4.frozen? ⟨w.heap.size + 1 + 1, 1, none⟩ = false := H2.out.frozen 1
  have Hb4 := hide (Hb03.out.trans (hb4.mono Hb03.out.size))
  have Own4 := hide own4
  clear hb4 own4
  go_wp2_with fail
  have K := ((H1.out.far (p := ⟨w.heap.size + 1 + 1, 1, none⟩) (show w.heap.size + 1 ≠ w.heap.size + 1 + 1 by omega) (.slice (some ⟨w.heap.size + 3, 0, none⟩) n n)).set_ 0 (.string nm)).set_ 1 (.slice (some ⟨w.heap.size + 3, 0, none⟩) n n)
  have k0 := K.cell 0
  have k1 := K.cell 1
  simp at k0 k1
  refine bodyPost_ret (v := .agg #[.string nm, .slice (some ⟨w.heap.size + 3, 0, none⟩) n n]) (by simp [results, Try.results92, go_sem, k0, k1]) rfl ⟨w.heap.size + 3, rfl, ?_, ?_⟩
  · have o1 := own_base Own4.out (show w.heap.size ≤ w.heap.size + 3 by omega)
    have g : ∀ (W : World) (p : Addr) (v : Value), W.grownBy (W.setCell p v) (some p.block) := fun W p v => ⟨rfl, rfl, rfl, by simp, fun k _ hk => heap_setCell_other W p k v (fun e => hk (by simp [e]))⟩
    have ne : ∀ q, q < w.heap.size + 3 → (Value.slice (some ⟨w.heap.size + 3, 0, none⟩) n n).ownBlock ≠ some q := fun q hq e => by simp [Value.ownBlock] at e; omega
    exact ((o1.kept (g _ _ _) (.inr (ne _ (by show w.heap.size + 1 + 1 < _; omega)))).kept (g _ _ _) (.inr (ne _ (by show w.heap.size + 1 < _; omega)))).kept (g _ _ _) (.inr (ne _ (by show w.heap.size + 1 < _; omega)))
  · exact ((Hb4.out.setCell (p := ⟨w.heap.size + 1 + 1, 1, none⟩) (by show w.heap.size ≤ w.heap.size + 1 + 1; omega) _).setCell (p := ⟨w.heap.size + 1, 0, none⟩) (by show w.heap.size ≤ w.heap.size + 1; omega) _).setCell (p := ⟨w.heap.size + 1, 1, none⟩) (by show w.heap.size ≤ w.heap.size + 1; omega) _
end Go.Proofs.Ytimpmlmkhjeajaa

/- Words of the exact laws of accounts: copies, equality. -/
set_option linter.unusedVariables false
set_option linter.unusedSimpArgs false
namespace Go.Proofs.Ytimpmlmkhjeajaa
open Go.RowKit Go.BigFrame

theorem grown_set (W : World) (p : Addr) (v : Value) : W.grownBy (W.setCell p v) (some p.block) := ⟨rfl, rfl, rfl, by simp, fun k _ hk => heap_setCell_other W p k v (fun e => hk (by simp [e]))⟩
theorem take_two {Z : List Value} {k : Nat} {x y : Value} (hz : k * 2 + 1 < Z.length) : ((Z.set (k * 2) x).set (k * 2 + 1) y).take ((k + 1) * 2) = Z.take (k * 2) ++ [x, y] := by
  apply List.ext_getElem?; intro j
  rw [List.getElem?_take]
  have htl : (Z.take (k * 2)).length = k * 2 := by rw [List.length_take]; omega
  rcases Nat.lt_trichotomy j (k * 2) with hj | hj | hj
  · rw [if_pos (by omega), List.getElem?_set_ne (by omega), List.getElem?_set_ne (by omega), List.getElem?_append_left (by omega), List.getElem?_take, if_pos hj]
  · subst hj
    rw [if_pos (by omega), List.getElem?_set_ne (by omega), List.getElem?_set_self (by omega), List.getElem?_append_right (by omega), htl, Nat.sub_self]; rfl
  · rw [List.getElem?_append_right (by omega), htl]
    by_cases e : j = k * 2 + 1
    · subst e
      rw [if_pos (by omega), List.getElem?_set_self (by simp; omega), show k * 2 + 1 - k * 2 = 1 by omega]; rfl
    · rw [if_neg (by omega), List.getElem?_eq_none (by simp; omega)]
/-- toAccountS behind k rounds. -/
def ToAt (w wr : World) (n k : Nat) (Z : List Value) (X : List Acc) : Prop :=
  ∃ Y, accsV Y = X.take k ∧ Z.take (k * 2) = vcells Y ∧ wr.ownsRow w.heap.size 79 2 (.slice (some ⟨w.heap.size, 0, none⟩) n n) n Z ∧
    (∀ y ∈ Y, wr.ownsRow w.heap.size 9 1 y.2.2 y.2.1.length (y.2.1.map Value.string)) ∧ (∀ y ∈ Y, ∀ b, y.2.2.ownBlock = some b → w.heap.size < b) ∧ Y.Pairwise fun y z => ∀ b, y.2.2.ownBlock = some b → z.2.2.ownBlock ≠ some b
theorem ToAt.below {w wr w3 : World} {n k : Nat} {Z : List Value} {X : List Acc} (h : ToAt w wr n k Z X) (hb : Below wr.heap.size wr w3) : ToAt w w3 n k Z X := by
  obtain ⟨Y, h1, h2, h3, h4, h5, h6⟩ := h
  exact ⟨Y, h1, h2, h3.kept (grown_of_below hb (row := none)) (.inr (by simp [Value.ownBlock])), fun y hy => (h4 y hy).kept (grown_of_below hb (row := none)) (Classical.em _), h5, h6⟩
theorem ToAt.step {w w3 : World} {n k m b base' : Nat} {Z : List Value} {X : List Acc} {a : Acc} (h : ToAt w w3 n k Z X) (ha : X[k]? = some a) (hk : k < n) (hlt : ∀ y, (∃ Y, accsV Y = X.take k ∧ y ∈ Y) → True)
    (own : w3.ownsRow base' 9 1 (.slice (some ⟨b, 0, none⟩) m m) m (a.2.map Value.string)) (hb : w.heap.size < b) (hbb : w.heap.size ≤ base') (hnew : ∀ Y : List AccV, (∀ y ∈ Y, w3.ownsRow w.heap.size 9 1 y.2.2 y.2.1.length (y.2.1.map Value.string)) → accsV Y = X.take k → Z.take (k * 2) = vcells Y → ∀ y ∈ Y, y.2.2.ownBlock ≠ some b) :
    ToAt w ((w3.setCell ⟨w.heap.size, k * 2, none⟩ (.string a.1)).setCell ⟨w.heap.size, k * 2 + 1, none⟩ (.slice (some ⟨b, 0, none⟩) m m)) n (k + 1) ((Z.set (k * 2) (.string a.1)).set (k * 2 + 1) (.slice (some ⟨b, 0, none⟩) m m)) X := by
  obtain ⟨Y, h1, h2, h3, h4, h5, h6⟩ := h
  have hz := h3.1
  have s1 := h3.stored (k * 2) (.string a.1)
  have s2 := s1.1.stored (k * 2 + 1) (.slice (some ⟨b, 0, none⟩) m m)
  have hm : a.2.length = m := own_len' own
  have keep : ∀ {e : TypeId} {size q : Nat} {v : Value} {xs : List Value}, w3.ownsRow w.heap.size e size v q xs → v.ownBlock ≠ some w.heap.size → ((w3.setCell ⟨w.heap.size, k * 2, none⟩ (.string a.1)).setCell ⟨w.heap.size, k * 2 + 1, none⟩ (.slice (some ⟨b, 0, none⟩) m m)).ownsRow w.heap.size e size v q xs := fun ho hne => (ho.kept (grown_set _ _ _) (.inr hne)).kept (grown_set _ _ _) (.inr hne)
  refine ⟨Y ++ [(a.1, a.2, .slice (some ⟨b, 0, none⟩) m m)], ?_, ?_, s2.1, ?_, ?_, ?_⟩
  · rw [List.take_add_one, ha, ← h1]; simp [accsV]
  · rw [take_two (by omega), h2, vcells_app]; rfl
  · intro y hy
    rcases List.mem_append.1 hy with h | h
    · exact keep (h4 y h) (fun e => by have := h5 y h _ e; omega)
    · rw [List.mem_singleton.1 h]
      rw [hm]
      exact keep (own_base own hbb) (fun e => by simp [Value.ownBlock] at e; omega)
  · intro y hy c hc
    rcases List.mem_append.1 hy with h | h
    · exact h5 y h c hc
    · rw [List.mem_singleton.1 h] at hc; simp [Value.ownBlock] at hc; omega
  · rw [List.pairwise_append]
    refine ⟨h6, List.pairwise_singleton _ _, fun y hy z hz c hc e => ?_⟩
    rw [List.mem_singleton.1 hz] at e
    simp [Value.ownBlock] at e
    subst e
    exact hnew Y h4 h1 h2 y hy hc

set_option maxHeartbeats 1000000 in
theorem e_toA (A : Option Addr) (n c : Nat) (X : List Acc) (w : World) (hX : Accs w w.heap.size A n X) (hn : n ≤ 1048576) (hF : totF X ≤ 1048576) :
    Calls Try.prog 44 #[.slice A n c] w fun e w' => e = .returned (.slice (some ⟨w.heap.size, 0, none⟩) n n) ∧ Nest w.heap.size w' (some ⟨w.heap.size, 0, none⟩) n n X ∧ Below w.heap.size w w' := by
  obtain ⟨i0, hi0, hz0, hz1, hz2⟩ := info_parts acc_info
  have hU := Try.underlying23
  have hl := hide hX.1
  have HX := hide hX
  have HFt := hide hF
  clear hX hF
  have b1 : i0.bytes * n ≤ 281474976710656 := by rw [hz2]; omega
  have b2 : n ≤ maxLen := by unfold maxLen; omega
  go_enter Try.func44, Try.ntmps44
  go_wp2_with (at_make
               refine wpList_make_full _ rfl (.tmp 6) (.tmp 6) _ rfl w.heap.size 79 i0 _ 2 hU hi0 hz0 hz1 .i64 .i64 (n : Int) (n : Int) n rfl rfl rfl rfl b1 b2 (Nat.le_refl _) ?_
               intro w1 own1 gr1
               have hb1 : Below w.heap.size w w1 := (Below.refl _ _).grown gr1 (Nat.le_refl _) (by simp)
               clear gr1)
  go_loopw [4] (fun i wr => ∃ (k : Nat) (Z : List Value), k ≤ n ∧ i = .int .i64 k ∧ Hid (ToAt w wr n k Z X) ∧ Hid (Below w.heap.size w wr)) (fun i _ => n - (intOf i).toNat)
  case atStart => exact ⟨0, _, Nat.zero_le _, rfl, ⟨[], rfl, by simp [vcells], own1, fun y h => by simp at h, fun y h => by simp at h, List.Pairwise.nil⟩, hb1⟩
  case round =>
    obtain ⟨k, Z, hk, rfl, hto, hbr⟩ := hrel
    by_cases hlt : k < n
    · obtain ⟨a, ha⟩ : ∃ a, X[k]? = some a := ⟨X[k]'(by have := hl.out; omega), List.getElem?_eq_getElem _⟩
      obtain ⟨g, off, A', n', c', rfl, hg, hc0, hc1, hn', hm', hf⟩ := (HX.out.below hbr.out).at' ha
      have hsz := hbr.out.size
      have HF := hide (hf.strs.more hsz)
      have hn1 : n' ≤ 1048576 := by
        have h1 := HF.out.1
        have h2 := totF_take ha
        have h3 := totF_le (X := X) (k := k + 1)
        have h4 := HFt.out
        omega
      have Ha := hide ha
      clear hf ha
      go_wp2_with fail
      refine (e_toA1 a.1 A' n' c' a.2 _ HF.out hn1).mono ?_
      rintro e w3 ⟨b, rfl, own3, hb3⟩
      have hbb := (own3.lt b rfl).1
      have hwlt : w.heap.size < wr.heap.size := by
        obtain ⟨Y, _, _, h3, _⟩ := hto.out
        exact (h3.lt w.heap.size rfl).2
      have Hto3 := hide (hto.out.below hb3)
      have Hb3 := hide (hbr.out.trans (hb3.mono hsz))
      have hnew : ∀ Y : List AccV, (∀ y ∈ Y, w3.ownsRow w.heap.size 9 1 y.2.2 y.2.1.length (y.2.1.map Value.string)) → accsV Y = X.take k → Z.take (k * 2) = vcells Y → ∀ y ∈ Y, y.2.2.ownBlock ≠ some b := by
        intro Y h1 h2 h3 y hy e
        obtain ⟨Y2, g1, g2, _, g4, _, _⟩ := hto.out
        have e2 : vcells Y2 = vcells Y := g2.symm.trans h3
        have hl2 : Y2.length = Y.length := by have := congrArg List.length e2; rw [vcells_len, vcells_len] at this; omega
        obtain ⟨j, hj, ej⟩ := List.mem_iff_getElem.1 hy
        have hy1 : Y[j]? = some y := by rw [List.getElem?_eq_getElem hj, ej]
        have hy2 : Y2[j]? = some (Y2[j]'(by omega)) := List.getElem?_eq_getElem _
        have p1 := (vcells_at hy1).2
        have p2 := (vcells_at hy2).2
        rw [e2] at p2
        rw [p1] at p2
        injection p2 with p2
        have := (g4 _ (List.getElem_mem (by omega : j < Y2.length))).lt b (by rw [← p2]; exact e)
        omega
      have Hst := hide (hto.out.below hb3 |>.step Ha.out hlt (fun _ _ => trivial) own3 (by omega) hsz hnew)
      obtain ⟨z0, z1, hcz0, hcz1, hf0, hf1⟩ : ∃ z0 z1, w3.cell? ⟨w.heap.size, k * 2, none⟩ = some z0 ∧ w3.cell? ⟨w.heap.size, k * 2 + 1, none⟩ = some z1 ∧ w3.frozen? ⟨w.heap.size, k * 2, none⟩ = false ∧ w3.frozen? ⟨w.heap.size, k * 2 + 1, none⟩ = false := by
        obtain ⟨Y, _, _, h3, _⟩ := Hto3.out
        have hz := h3.1
        exact ⟨Z[k * 2]'(by omega), Z[k * 2 + 1]'(by omega), (h3.cellAt (k * 2) (by omega)).trans (List.getElem?_eq_getElem _), (h3.cellAt (k * 2 + 1) (by omega)).trans (List.getElem?_eq_getElem _), h3.frozenAt (k * 2), h3.frozenAt (k * 2 + 1)⟩
      have HB : Hid (Below w.heap.size w ((w3.setCell ⟨w.heap.size, k * 2, none⟩ (.string a.1)).setCell ⟨w.heap.size, k * 2 + 1, none⟩ (.slice (some ⟨b, 0, none⟩) n' n'))) := (Hb3.out.setCell (Nat.le_refl _) _).setCell (Nat.le_refl _) _
      clear hb3 hnew own3
      go_wp2_with fail
      go_roundw
      case rel => exact ⟨k + 1, _, by omega, by go_num, Hst.out, HB.out⟩
      case measure => simp [intOf]; omega
    · obtain ⟨Y, h1, h2, h3, h4, h5, h6⟩ := hto.out
      have hz := h3.1
      rw [List.take_of_length_le (by have := hl.out; omega)] at h1
      rw [List.take_of_length_le (by omega)] at h2
      rw [h2] at h3
      have HN : Hid (Nest w.heap.size wr (some ⟨w.heap.size, 0, none⟩) n n X) := ⟨Y, h1, h3, h4, fun y hy c hc e => by have := h5 y hy c hc; simp [Value.ownBlock] at e; omega, h6⟩
      clear h1 h2 h3 h4 h5 h6 hz
      go_wp2_with fail
      go_ret
      exact ⟨rfl, HN.out, hbr.out⟩

set_option maxHeartbeats 1000000 in
theorem e_eqA1 (a : Acc) (A : Option Addr) (n c : Nat) (B : Option Addr) (m d : Nat) (w : World) (hA : Strs w w.heap.size A n a.2) (hB : Strs w w.heap.size B m a.2) (hn : n ≤ maxLen) (hm : m ≤ maxLen) :
    Calls Try.prog 93 #[.agg #[.string a.1, .slice A n c], .agg #[.string a.1, .slice B m d]] w fun e w' => e = .returned (.bool true) ∧ Below w.heap.size w w' := by
  have Hbel : ∀ T S, Hid (Below w.heap.size w ((w.alloc (.cells #[.string a.1, .slice A n c] T)).alloc (.cells #[.string a.1, .slice B m d] S))) := fun T S => hide (((Below.refl _ _).alloc (Nat.le_refl _) _).alloc (by simp) _)
  have HA := hide hA
  have HB := hide hB
  clear hA hB
  go_enter Try.func93, Try.ntmps93
  go_wp2_with fail
  refine (e_eq_t A n c B m d a.2 _ (HA.out.on (Hbel _ _).out) (HB.out.on (Hbel _ _).out) hn hm).mono ?_
  rintro e w4 ⟨rfl, q4, rfl⟩
  go_wp2_with fail
  go_ret
  exact ⟨rfl, below_drewN (Hbel _ _).out q4⟩
theorem Later.eqA {B0 : Nat} {W : World} (z : Later B0 W) (a : Acc) (A : Option Addr) (n c : Nat) (B : Option Addr) (m d : Nat) (hA : Strs W B0 A n a.2) (hB : Strs W B0 B m a.2) (h0 : B0 ≤ W.heap.size) (hn : n ≤ maxLen) (hm : m ≤ maxLen) :
    Calls Try.prog 93 #[.agg #[.string a.1, .slice A n c], .agg #[.string a.1, .slice B m d]] z.it fun e w'' => e = .returned (.bool true) ∧ ∃ z' : Later B0 W, w'' = z'.it := by
  have hsz := z.below.size
  exact Later.call ((e_eqA1 a A n c B m d z.it ((hA.below z.below).more (by omega)) ((hB.below z.below).more (by omega)) hn hm).mono fun e w' ⟨h1, h2⟩ => ⟨h1, h2.mono (by omega)⟩)
set_option maxHeartbeats 1000000 in
theorem e_eqA (A : Option Addr) (n c : Nat) (B : Option Addr) (m d : Nat) (X : List Acc) (w : World) (hA : Accs w w.heap.size A n X) (hB : Accs w w.heap.size B m X) (hn : n ≤ maxLen) :
    Calls Try.prog 45 #[.slice A n c, .slice B m d] w fun e w' => e = .returned (.bool true) ∧ Below w.heap.size w w' := by
  unfold maxLen at hn
  have hl := hide hA.1
  have hnm : n = m := hA.1.symm.trans hB.1
  subst hnm
  have HA := hide hA
  have HB := hide hB
  clear hA hB
  go_enter Try.func45, Try.ntmps45
  go_wp2_with fail
  go_loopw [5] (fun i wr => ∃ k : Nat, k ≤ n ∧ i = .int .i64 k ∧ Hid (Below w.heap.size w wr)) (fun i _ => n - (intOf i).toNat)
  case atStart => exact ⟨0, Nat.zero_le _, rfl, Below.refl _ _⟩
  case round =>
    obtain ⟨k, hk, rfl, hbr⟩ := hrel
    by_cases hlt : k < n
    · obtain ⟨a, ha⟩ : ∃ a, X[k]? = some a := ⟨X[k]'(by have := hl.out; omega), List.getElem?_eq_getElem _⟩
      obtain ⟨g, off, A4, n4, c4, rfl, hg, hc0, hc1, hn4, hm4, hf⟩ := (HA.out.below hbr.out).at' ha
      obtain ⟨g2, off2, A5, n5, c5, rfl, hg2, hd0, hd1, hn5, hm5, hf2⟩ := (HB.out.below hbr.out).at' ha
      have hz0 : ∀ z : Later w.heap.size wr, z.it.cell? ⟨g, off + k * 2, none⟩ = some (.string a.1) := fun z => (z.cell hg).trans hc0
      have hz1 : ∀ z : Later w.heap.size wr, z.it.cell? ⟨g, off + k * 2 + 1, none⟩ = some (.slice A4 n4 c4) := fun z => (z.cell hg).trans hc1
      have hz2 : ∀ z : Later w.heap.size wr, z.it.cell? ⟨g2, off2 + k * 2, none⟩ = some (.string a.1) := fun z => (z.cell hg2).trans hd0
      have hz3 : ∀ z : Later w.heap.size wr, z.it.cell? ⟨g2, off2 + k * 2 + 1, none⟩ = some (.slice A5 n5 c5) := fun z => (z.cell hg2).trans hd1
      have HF : Hid (Strs wr w.heap.size A4 n4 a.2) := hf.strs
      have HF2 : Hid (Strs wr w.heap.size A5 n5 a.2) := hf2.strs
      have hsz := hbr.out.size
      clear hf hf2 hc0 hc1 hd0 hd1 ha
      go_wp2_with fail
      refine wp_region_later (B := w.heap.size) (by kernel_rfl) (by kernel_rfl) ?_
      repeat (go_big_quiet_step ((go_at_call 93; exact Later.eqA _ a A4 n4 c4 A5 n5 c5 HF.out HF2.out hsz hm4 hm5)))
      refine wpQuiet_nil ?_
      intro _ hw'
      obtain ⟨⟨w5, hb5⟩, hw''⟩ := hw'
      subst hw''
      have Hb5 := hide hb5
      clear hb5
      go_wp2_with fail
      go_roundw
      case rel => exact ⟨k + 1, by omega, by go_num, hbr.out.trans Hb5.out⟩
      case measure => simp [intOf]; omega
    · go_wp2_with fail
      go_ret
      exact ⟨rfl, hbr.out⟩
end Go.Proofs.Ytimpmlmkhjeajaa

/- Words of the exact laws of accounts: marks. -/
set_option linter.unusedVariables false
set_option linter.unusedSimpArgs false
namespace Go.Proofs.Ytimpmlmkhjeajaa
open Go.RowKit

def markA : Nat → List Nat → List Acc
  | _, [] => []
  | k, m :: ns => (mkT k, marks (k + 1) m) :: markA (k + 1 + m) ns
def cnt (ns : List Nat) : Nat := ns.length + ns.sum
theorem cnt_nil : cnt [] = 0 := rfl
theorem cnt_cons (m : Nat) (ns : List Nat) : cnt (m :: ns) = 1 + m + cnt ns := by unfold cnt; simp; omega
theorem cnt_take : ∀ {ns : List Nat} {j m : Nat}, ns[j]? = some m → cnt (ns.take (j + 1)) = cnt (ns.take j) + 1 + m
  | [], j, m, h => by simp at h
  | q :: ns, 0, m, h => by simp at h; subst h; simp [cnt]
  | q :: ns, j + 1, m, h => by
    have h' : ns[j]? = some m := by simpa using h
    rw [List.take_succ_cons, List.take_succ_cons, cnt_cons, cnt_cons, cnt_take h']; omega
theorem cnt_le {ns : List Nat} {j m : Nat} (h : ns[j]? = some m) : cnt (ns.take j) + 1 + m ≤ cnt ns := by
  rw [← cnt_take h]
  have e : cnt ns = cnt (ns.take (j + 1)) + cnt (ns.drop (j + 1)) := by
    conv => lhs; rw [← List.take_append_drop (j + 1) ns]
    unfold cnt; rw [List.length_append, List.sum_append]; omega
  omega
theorem markA_len : ∀ (k : Nat) (ns : List Nat), (markA k ns).length = ns.length
  | _, [] => rfl
  | k, m :: ns => by simp [markA, markA_len]
theorem markA_at : ∀ {k j m : Nat} {ns : List Nat}, ns[j]? = some m → (markA k ns)[j]? = some (mkT (k + cnt (ns.take j)), marks (k + cnt (ns.take j) + 1) m)
  | k, j, m, [], h => by simp at h
  | k, 0, m, q :: ns, h => by simp at h; subst h; simp [markA, cnt]
  | k, j + 1, m, q :: ns, h => by
    have h' : ns[j]? = some m := by simpa using h
    have e : k + 1 + q + cnt (ns.take j) = k + cnt ((q :: ns).take (j + 1)) := by rw [List.take_succ_cons, cnt_cons]; omega
    have := markA_at (k := k + 1 + q) h'
    rw [e] at this
    simpa [markA] using this
theorem own_slice' {w : World} {base : Nat} {e : TypeId} {size m : Nat} {v : Value} {xs : List Value} (h : w.ownsRow base e size v m xs) : ∃ A c, v = .slice A m c := by
  rcases h.2 with ⟨rfl, rfl⟩ | ⟨g, cap, cur, rfl, _⟩
  · exact ⟨_, _, rfl⟩
  · exact ⟨_, _, rfl⟩
/-- How many followers each has. -/
def lens (Y : List AccV) : List Nat := Y.map fun y => y.2.1.length
def vals (Y : List AccV) : List Value := Y.map fun y => y.2.2
theorem set_same' {α : Type} {L : List α} {j : Nat} {x : α} (h : L[j]? = some x) : L.set j x = L := by
  obtain ⟨hj, e⟩ := List.getElem?_eq_some_iff.1 h
  subst e
  exact List.set_getElem_self hj
theorem lens_set {Y : List AccV} {j : Nat} {y z : AccV} (h : Y[j]? = some y) (e : z.2.1.length = y.2.1.length) : lens (Y.set j z) = lens Y := by
  unfold lens
  rw [List.map_set]
  have h1 : (Y.map fun y => y.2.1.length)[j]? = some z.2.1.length := by rw [List.getElem?_map, h, e]; rfl
  exact set_same' h1
theorem vals_set {Y : List AccV} {j : Nat} {y z : AccV} (h : Y[j]? = some y) (e : z.2.2 = y.2.2) : vals (Y.set j z) = vals Y := by
  unfold vals
  rw [List.map_set]
  have h1 : (Y.map fun y => y.2.2)[j]? = some z.2.2 := by rw [List.getElem?_map, h, e]; rfl
  exact set_same' h1
theorem vblk_vals {v : Value} {Y Z : List AccV} (h : vals Y = vals Z) {b : Nat} (hb : VBlk v Y b) : VBlk v Z b := by
  rcases hb with hb | ⟨y, hy, hb⟩
  · exact .inl hb
  · have h1 : y.2.2 ∈ vals Z := by rw [← h]; exact List.mem_map_of_mem hy
    obtain ⟨z, hz, e⟩ := List.mem_map.1 h1
    exact .inr ⟨z, hz, by rw [e]; exact hb⟩
theorem two_vals {Y Z : List AccV} (h : vals Y = vals Z) (ht : Y.Pairwise fun y z => ∀ b, y.2.2.ownBlock = some b → z.2.2.ownBlock ≠ some b) : Z.Pairwise fun y z => ∀ b, y.2.2.ownBlock = some b → z.2.2.ownBlock ≠ some b := by
  have h1 : (vals Y).Pairwise fun u v => ∀ b, u.ownBlock = some b → v.ownBlock ≠ some b := by unfold vals; rw [List.pairwise_map]; exact ht
  rw [h] at h1
  unfold vals at h1
  rwa [List.pairwise_map] at h1
section
variable {base : Nat} {w w' : World} {n c b : Nat} {Y : List AccV}
theorem NestY.name {j : Nat} {y : AccV} (h : NestY base w (some ⟨b, 0, none⟩) n c Y) (hy : Y[j]? = some y) (t : ByteArray) : NestY base (w.setCell ⟨b, j * 2, none⟩ (.string t)) (some ⟨b, 0, none⟩) n c (Y.set j (t, y.2)) := by
  have s1 := h.row.stored (j * 2) (.string t)
  rw [vcells_set0 t hy] at s1
  have hv := vals_set (z := (t, y.2)) hy rfl
  refine ⟨s1.1, fun z hz => ?_, fun z hz d hd => ?_, two_vals hv.symm h.two⟩
  · rcases List.mem_or_eq_of_mem_set hz with h1 | rfl
    · exact (h.fol z h1).kept (grown_set _ _ _) (.inr (fun e => h.far z h1 _ e rfl))
    · exact (h.fol y (List.mem_of_getElem? hy)).kept (grown_set _ _ _) (.inr (fun e => h.far y (List.mem_of_getElem? hy) _ e rfl))
  · rcases List.mem_or_eq_of_mem_set hz with h1 | rfl
    · exact h.far z h1 d hd
    · exact h.far y (List.mem_of_getElem? hy) d hd
theorem vcells_set1 : ∀ {X : List AccV} {k : Nat} {a : AccV} (G : List ByteArray), X[k]? = some a → vcells X = vcells (X.set k (a.1, G, a.2.2))
  | [], k, a, v, h => by simp at h
  | b :: X, 0, a, v, h => by simp at h; subst h; rw [vcells_cons, List.set_cons_zero, vcells_cons]
  | b :: X, k + 1, a, v, h => by
    have h' : X[k]? = some a := by simpa using h
    rw [vcells_cons, List.set_cons_succ, vcells_cons, ← vcells_set1 v h']
theorem NestY.folw {A : Option Addr} {j : Nat} {y : AccV} {G : List ByteArray} (h : NestY base w A n c Y) (hy : Y[j]? = some y) (hG : w'.ownsRow base 9 1 y.2.2 G.length (G.map Value.string)) (hg : w.grownBy w' y.2.2.ownBlock) : NestY base w' A n c (Y.set j (y.1, G, y.2.2)) := by
  have hm := List.mem_of_getElem? hy
  obtain ⟨hj, ej⟩ := List.getElem?_eq_some_iff.1 hy
  have hv := vals_set (z := (y.1, G, y.2.2)) hy rfl
  refine ⟨?_, fun z hz => ?_, fun z hz d hd => ?_, two_vals hv.symm h.two⟩
  · rw [← vcells_set1 G hy]
    refine h.row.kept hg ?_
    cases ho : (Value.slice A n c).ownBlock with
    | none => exact .inl rfl
    | some q => exact .inr (fun e => h.far y hm q e.symm ho)
  · obtain ⟨i, hi, ei⟩ := List.mem_iff_getElem.1 hz
    rw [List.length_set] at hi
    by_cases e : i = j
    · subst e
      rw [List.getElem_set_self] at ei
      rw [← ei]; exact hG
    · rw [List.getElem_set_ne (by omega)] at ei
      subst ei
      refine (h.fol _ (List.getElem_mem hi)).kept hg ?_
      cases ho : (Y[i]).2.2.ownBlock with
      | none => exact .inl rfl
      | some q =>
        refine .inr (fun e2 => ?_)
        have tw := List.pairwise_iff_getElem.1 h.two
        rcases Nat.lt_or_gt_of_ne e with hl | hl
        · exact tw i j hi hj hl q ho (by rw [ej]; exact e2.symm)
        · exact tw j i hj hi hl q (by rw [ej]; exact e2.symm) ho
  · rcases List.mem_or_eq_of_mem_set hz with h1 | rfl
    · exact h.far z h1 d hd
    · exact h.far y hm d hd
theorem accsV_set {Y : List AccV} {j : Nat} {z : AccV} (i : Nat) : (accsV (Y.set j z))[i]? = if i = j ∧ j < Y.length then some (z.1, z.2.1) else (accsV Y)[i]? := by
  unfold accsV
  rw [List.map_set, List.getElem?_set]
  by_cases e : j = i
  · subst e
    rw [if_pos rfl]
    by_cases hl : j < Y.length
    · rw [if_pos (by simpa using hl), if_pos ⟨rfl, hl⟩]
    · rw [if_neg (by simpa using hl), if_neg (by omega), List.getElem?_eq_none (by simp; omega)]
  · rw [if_neg e, if_neg (fun h => e h.1.symm)]
end

set_option maxHeartbeats 1000000 in
theorem e_marksA (base top : Nat) (A : Option Addr) (n c k : Nat) (Y : List AccV) (w : World) (own : NestY base w A n c Y) (hT : ∀ b, VBlk (.slice A n c) Y b → b < top) (hk : 1 ≤ k) (hk2 : k + cnt (lens Y) ≤ 1500000) :
    Calls Try.prog 46 #[.slice A n c, .int .i64 k] w fun e w' => e = .returned (.int .i64 ((k + cnt (lens Y) : Nat) : Int)) ∧ (∃ Z, NestY base w' A n c Z ∧ accsV Z = markA k (lens Y) ∧ vals Z = vals Y) ∧ Mid base top w w' := by
  have hln : Hid (Y.length = n) := own.len
  have hlen2 : Hid ((lens Y).length = n) := by show _ = _; unfold lens; rw [List.length_map]; exact own.len
  have hnb : n ≤ 1500000 := by have h1 := hlen2.out; have h2 := hk2; unfold cnt at h2; omega
  rcases own_form own.row with ⟨rfl, rfl⟩ | ⟨b, rfl⟩
  · have hY : Y = [] := List.eq_nil_of_length_eq_zero hln.out
    subst hY
    go_enter Try.func46, Try.ntmps46
    go_wp2_with fail
    go_loopw [1, 5] (fun r i wr => r = .int .i64 k ∧ i = .int .i64 0 ∧ wr = w) (fun _ _ _ => 0)
    case atStart => exact ⟨rfl, rfl, rfl⟩
    case round =>
      obtain ⟨rfl, rfl, rfl⟩ := hrel
      go_wp2_with fail
      go_ret
      exact ⟨rfl, ⟨[], own, rfl, rfl⟩, Mid.refl _ _ _⟩
  · have Own := hide own
    have HT := hide hT
    have HK := hide hk2
    clear own hT hk2
    go_enter Try.func46, Try.ntmps46
    go_wp2_with fail
    go_loopw [1, 5] (fun r i wr => ∃ (j q : Nat) (Z : List AccV), j ≤ n ∧ r = .int .i64 (q : Int) ∧ i = .int .i64 j ∧ Hid (q = k + cnt ((lens Y).take j)) ∧ Hid (NestY base wr (some ⟨b, 0, none⟩) n c Z) ∧ Hid (lens Z = lens Y ∧ vals Z = vals Y) ∧ Hid (∀ i, i < j → (accsV Z)[i]? = (markA k (lens Y))[i]?) ∧ Hid (Mid base top w wr)) (fun _ i _ => n - (intOf i).toNat)
    case atStart => exact ⟨0, k, Y, Nat.zero_le _, rfl, rfl, by simp [Hid, cnt], Own.out, ⟨rfl, rfl⟩, fun i h => absurd h (by omega), Mid.refl _ _ _⟩
    case round =>
      obtain ⟨j, q, Z, hj, rfl, rfl, hq, hN, hLV, hu, hMid⟩ := hrel
      by_cases hlt : j < n
      · have hzl : Hid (Z.length = n) := hN.out.len
        obtain ⟨y, hy⟩ : ∃ y, Z[j]? = some y := ⟨Z[j]'(by have := hzl.out; omega), List.getElem?_eq_getElem _⟩
        have hm : (lens Y)[j]? = some y.2.1.length := by rw [← hLV.out.1]; unfold lens; rw [List.getElem?_map, hy]; rfl
        have hcl := cnt_le hm
        have hct := cnt_take hm
        have hma := markA_at (k := k) hm
        have hq1 : q + 1 + y.2.1.length ≤ 1500000 := by have h1 := hq.out; have h2 := HK.out; omega
        obtain ⟨A4, c4, e4⟩ := own_slice' (hN.out.fol y (List.mem_of_getElem? hy))
        have Hy := hide hy
        have Hm := hide hm
        have Hct := hide hct
        have Hma := hide hma
        clear hm hy hcl hct hma
        go_wp2_with fail
        refine (e_mark q _ (by have := hq.out; omega) (by omega)).mono ?_
        rintro e w3 ⟨rfl, hb3⟩
        have N3 := hide (hN.out.below hb3)
        have M3 := hide (hMid.out.trans (Mid.of_below hb3))
        have hzz : (vcells Z).length = n * 2 := by rw [vcells_len]; have := hzl.out; omega
        have hcz : w3.cell? ⟨b, j * 2, none⟩ = some (.string y.1) := (N3.out.row.cellAt (j * 2) (by omega)).trans (vcells_at Hy.out).1
        have hcu : w3.cell? ⟨b, j * 2 + 1, none⟩ = some (.slice A4 y.2.1.length c4) := (N3.out.row.cellAt (j * 2 + 1) (by omega)).trans ((vcells_at Hy.out).2.trans (by rw [e4]))
        have hfz : w3.frozen? ⟨b, j * 2, none⟩ = false := N3.out.row.frozenAt (j * 2)
        have N4 := hide (N3.out.name Hy.out (mkT q))
        have hb : base ≤ b ∧ b < top := ⟨(hN.out.row.lt b rfl).1, HT.out b (.inl rfl)⟩
        have M4 := hide (M3.out.trans (Mid.of_grown (grown_set w3 ⟨b, j * 2, none⟩ (.string (mkT q))) (fun g e => by injection e with e; subst e; exact hb)))
        have Hy4 : Hid ((Z.set j (mkT q, y.2))[j]? = some (mkT q, y.2)) := List.getElem?_set_self (by have := hzl.out; omega)
        have Ht := hide (show mkT q = mkT q from rfl)
        clear hb3 hzz
        generalize htt : mkT q = t at *
        have Htt := hide htt
        clear htt
        go_wp2_with fail
        have f4 := N4.out.fol _ (List.mem_of_getElem? Hy4.out)
        have F4 := hide (show World.ownsRow _ base 9 1 (.slice A4 y.2.1.length c4) y.2.1.length (y.2.1.map Value.string) from e4 ▸ f4)
        clear f4
        refine (e_marks base A4 y.2.1.length c4 (q + 1) y.2.1 _ F4.out (by omega) (by omega) (by omega)).mono ?_
        rintro e w5 ⟨rfl, own5, gr5⟩
        have hG : w5.ownsRow base 9 1 y.2.2 (marks (q + 1) y.2.1.length).length ((marks (q + 1) y.2.1.length).map Value.string) := by rw [marks_len, e4]; exact own5
        have N5 := hide (N4.out.folw Hy4.out hG (show World.grownBy _ w5 y.2.2.ownBlock from e4.symm ▸ gr5))
        have M5 := hide (M4.out.trans (Mid.of_grown gr5 (fun g e => ⟨(F4.out.lt g e).1, HT.out g (vblk_vals hLV.out.2 (.inr ⟨y, List.mem_of_getElem? Hy.out, by rw [e4]; exact e⟩))⟩)))
        have HLV5 : Hid (lens ((Z.set j (t, y.2)).set j (t, marks (q + 1) y.2.1.length, y.2.2)) = lens Y ∧ vals ((Z.set j (t, y.2)).set j (t, marks (q + 1) y.2.1.length, y.2.2)) = vals Y) := by
          refine ⟨?_, ?_⟩
          · rw [lens_set (z := (t, marks (q + 1) y.2.1.length, y.2.2)) Hy4.out (by exact marks_len _ _), lens_set (z := (t, y.2)) Hy.out rfl]; exact hLV.out.1
          · rw [vals_set (z := (t, marks (q + 1) y.2.1.length, y.2.2)) Hy4.out rfl, vals_set (z := (t, y.2)) Hy.out rfl]; exact hLV.out.2
        have H5 : Hid (∀ i, i < j + 1 → (accsV ((Z.set j (t, y.2)).set j (t, marks (q + 1) y.2.1.length, y.2.2)))[i]? = (markA k (lens Y))[i]?) := fun i hi => by
          rw [accsV_set, accsV_set]
          by_cases e : i = j
          · subst e
            rw [if_pos ⟨rfl, by rw [List.length_set]; have := hzl.out; omega⟩, Hma.out, ← hq.out, Htt.out]
          · rw [if_neg (fun h => e h.1), if_neg (fun h => e h.1)]
            exact hu.out i (by omega)
        clear own5 gr5 hG
        go_wp2_with fail
        go_roundw
        case rel => exact ⟨j + 1, q + 1 + y.2.1.length, _, by omega, by go_num, by go_num, by show _ = _; have h1 := hq.out; have h2 := Hct.out; omega, N5.out, HLV5.out, H5, M5.out⟩
        case measure => simp [intOf]; omega
      · obtain rfl : j = n := by omega
        have hQ : Hid (q = k + cnt (lens Y)) := by
          have h := hq.out
          rw [List.take_of_length_le (by have := hlen2.out; omega)] at h
          exact h
        have HZ : Hid (accsV Z = markA k (lens Y)) := by
          apply List.ext_getElem?; intro i
          rcases Nat.lt_or_ge i j with hi | hi
          · exact hu.out i hi
          · rw [List.getElem?_eq_none (by rw [accsV_len]; have := hN.out.len; omega), List.getElem?_eq_none (by rw [markA_len]; have := hlen2.out; omega)]
        go_wp2_with fail
        go_ret
        exact ⟨by rw [hQ.out]; rfl, ⟨Z, hN.out, HZ.out, hLV.out.2⟩, hMid.out⟩

theorem cnt_lens (Y : List AccV) : cnt (lens Y) = Y.length + totF (accsV Y) := by
  unfold cnt lens totF accsV
  rw [List.length_map, List.map_map]
  rfl
end Go.Proofs.Ytimpmlmkhjeajaa
