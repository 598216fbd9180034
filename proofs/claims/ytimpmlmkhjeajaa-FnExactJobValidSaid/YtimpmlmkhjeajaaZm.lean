/- Texts joined: Mk, Ex, Ex2. -/
import Derived.Test.YtimpmlmkhjeajaaZb
import Derived.LoopTactic
import Derived.Deep.RegionWith
import Derived.Test.YtimpmlmkhjeajaaZc

/- The text of a mark. -/
set_option linter.unusedVariables false
set_option linter.unusedSimpArgs false
namespace Go.Proofs.Ytimpmlmkhjeajaa
open Go.RowKit

theorem grown_tb {a b c : World} {row : Option Nat} (h : a.grownBy b row) (k : Below b.heap.size b c) : a.grownBy c row :=
  ⟨k.os.trans h.os, k.tape.trans h.tape, k.output.trans h.output, Nat.le_trans h.size k.size, fun i hi hn => (k.block i (Nat.lt_of_lt_of_le hi h.size)).trans (h.block i hi hn)⟩
theorem grown_tr {a b c : World} {row : Option Nat} (h : a.grownBy b row) (k : b.grownBy c row) : a.grownBy c row :=
  ⟨k.os.trans h.os, k.tape.trans h.tape, k.output.trans h.output, Nat.le_trans h.size k.size, fun i hi hn => (k.block i (Nat.lt_of_lt_of_le hi h.size) hn).trans (h.block i hi hn)⟩
theorem own_form {w : World} {base : Nat} {e : TypeId} {size : Nat} {A : Option Addr} {n c : Nat} {xs : List Value} (h : w.ownsRow base e size (.slice A n c) n xs) : (A = none ∧ n = 0) ∨ ∃ b, A = some ⟨b, 0, none⟩ := by
  rcases h.2 with ⟨h1, h2⟩ | ⟨g, cap, cur, h1, _⟩
  · injection h1 with h1 h3
    exact .inl ⟨h1, h2⟩
  · injection h1 with h1
    exact .inr ⟨g, h1⟩
/-- The digits of x ahead of o. -/
def digs : Nat → Nat → ByteArray → ByteArray
  | 0, _, o => o
  | f + 1, x, o => if x = 0 then o else digs f (x / 10) (({ data := #[48 + UInt8.ofNat (x % 10)] } : ByteArray) ++ o)
theorem digs_zero (f : Nat) (o : ByteArray) : digs f 0 o = o := by cases f <;> rfl
theorem digs_fuel : ∀ (f g x : Nat) (o : ByteArray), x ≤ f → x ≤ g → digs f x o = digs g x o
  | 0, g, x, o, hf, hg => by obtain rfl : x = 0 := by omega
                             rw [digs_zero, digs_zero]
  | f + 1, 0, x, o, hf, hg => by obtain rfl : x = 0 := by omega
                                 rfl
  | f + 1, g + 1, x, o, hf, hg => by
    unfold digs
    split
    · rfl
    · exact digs_fuel f g (x / 10) _ (by omega) (by omega)
theorem digs_step {f x : Nat} {o : ByteArray} (hx : 0 < x) (hf : x ≤ f) : digs f x o = digs f (x / 10) (({ data := #[48 + UInt8.ofNat (x % 10)] } : ByteArray) ++ o) := by
  obtain ⟨g, rfl⟩ : ∃ g, f = g + 1 := ⟨f - 1, by omega⟩
  rw [show digs (g + 1) x o = digs g (x / 10) (({ data := #[48 + UInt8.ofNat (x % 10)] } : ByteArray) ++ o) by
    conv => lhs; unfold digs
    rw [if_neg (by omega)]]
  exact digs_fuel _ _ _ _ (by omega) (by omega)
/-- The text of mark k. -/
def mkT (k : Nat) : ByteArray := ({ data := #[109] } : ByteArray) ++ digs k k { data := #[] }

theorem conv_one {P : Program} {src dst e : TypeId} (hs : P.underlying src = some (.slice e)) (he : P.underlying e = some (.int .u8)) (hd : P.underlying dst = some .string) (W : World) (z : Int) :
    (convert src dst (.slice (some ⟨W.heap.size, 0, none⟩) 1 1)).run P (W.alloc (.cells #[.int .u8 z] e)) = .ok (.string { data := #[UInt8.ofNat z.toNat] }) (W.alloc (.cells #[.int .u8 z] e)) := by
  rw [run_convert_bytes_string _ _ _ _ _ _ _ hs he hd, run_bytesToString _ _ _ _ [z] ?_]
  · rfl
  · have h0 : (W.alloc (.cells #[.int .u8 z] e)).cell? ⟨W.heap.size, 0, none⟩ = some (.int .u8 z) := (Blk.new W e _).cell 0
    simp [loadCells, go_sem, h0]
set_option maxHeartbeats 1000000 in
theorem e_mark (k : Nat) (w : World) (hk : 1 ≤ k) (hk2 : k ≤ 100000000) :
    Calls Try.prog 94 #[.int .i64 k] w fun e w' => e = .returned (.string (mkT k)) ∧ Below w.heap.size w w' := by
  have hcv := fun W z => conv_one (P := Try.prog) Try.underlying22 Try.underlying5 Try.underlying9 W z
  go_enter Try.func94, Try.ntmps94
  go_wp2_with fail
  go_loopw [0, 3] (fun x s wr => ∃ (n : Nat) (o : ByteArray), x = .int .i64 n ∧ s = .string o ∧ n ≤ k ∧ o.size + n ≤ k ∧ Hid (digs k n o = digs k k { data := #[] }) ∧ Below w.heap.size w wr) (fun x _ _ => (intOf x).toNat)
  case atStart => exact ⟨k, { data := #[] }, rfl, rfl, Nat.le_refl _, by show 0 + k ≤ k; omega, rfl, Below.refl _ _⟩
  case round =>
    obtain ⟨n, o, rfl, rfl, hn, hos, hd, hb⟩ := hrel
    by_cases h0 : 0 < n
    · go_wp2_with fail
      go_roundw
      case rel =>
        refine ⟨n / 10, _, by go_num, rfl, by omega, ?_, ?_, hb.alloc hb.size _⟩
        · rw [ByteArray.size_append]; show 1 + o.size + n / 10 ≤ k; omega
        · exact (digs_step h0 hn).symm.trans hd.out
      case measure => simp [intOf]; omega
    · obtain rfl : n = 0 := by omega
      have H : Hid (o = digs k k { data := #[] }) := by have := hd.out; rw [digs_zero] at this; exact this
      have hosz : o.size ≤ k := by omega
      go_wp2_with fail
      go_ret
      refine ⟨?_, hb⟩
      rw [mkT, ← H.out]; rfl
theorem grown_drewN (w : World) (n : Nat) {row : Option Nat} : w.grownBy (w.drewN n) row := ⟨rfl, rfl, rfl, Nat.le_refl _, fun _ _ _ => rfl⟩
end Go.Proofs.Ytimpmlmkhjeajaa

/- Words of the exact laws: sizes, copies, equality of lists of strings. -/
set_option linter.unusedVariables false
set_option linter.unusedSimpArgs false
namespace Go.Proofs.Ytimpmlmkhjeajaa
open Go.RowKit

set_option maxHeartbeats 1000000 in
theorem e_eq (A : Option Addr) (n c : Nat) (L : List ByteArray) (B : Option Addr) (m d : Nat) (M : List ByteArray) (w : World) (hL : Strs w w.heap.size A n L) (hM : Strs w w.heap.size B m M) (hn : n ≤ maxLen) (hm : m ≤ maxLen) :
    Calls Try.prog 49 #[.slice A n c, .slice B m d] w fun e w' => e = .returned (.bool (decide (L = M))) ∧ ∃ q, w' = w.drewN q := by
  unfold maxLen at hn hm
  have hl := hide hL.1
  have hL := hide hL.2
  have hml := hide hM.1
  have hM := hide hM.2
  by_cases hnm : n = m
  · subst hnm
    go_enter Try.func49, Try.ntmps49
    go_wp2_with fail
    go_loopw [5] (fun i wr => ∃ k q : Nat, k ≤ n ∧ i = .int .i64 k ∧ Hid (Agree L M k) ∧ wr = w.drewN q) (fun i _ => n - (intOf i).toNat)
    case atStart => exact ⟨0, 0, Nat.zero_le _, rfl, fun j h => absurd h (by omega), rfl⟩
    case round =>
      obtain ⟨k, q, hk, rfl, hu, rfl⟩ := hrel
      by_cases hlt : k < n
      · obtain ⟨g, off, rfl, hb, hc⟩ := hL.out (by omega)
        obtain ⟨g2, off2, rfl, hb2, hc2⟩ := hM.out (by omega)
        obtain ⟨t, ht⟩ : ∃ t, L[k]? = some t := ⟨L[k]'(by have := hl.out; omega), List.getElem?_eq_getElem _⟩
        obtain ⟨u, hu2⟩ : ∃ t, M[k]? = some t := ⟨M[k]'(by have := hml.out; omega), List.getElem?_eq_getElem _⟩
        have hck := hc k t ht
        have hck2 := hc2 k u hu2
        by_cases e : t = u
        · subst e
          have H : Hid (Agree L M (k + 1)) := fun j hj => by
            by_cases ej : j = k
            · subst ej; rw [ht, hu2]
            · exact hu.out j (by omega)
          clear ht hc hu2 hc2
          go_wp2_with fail
          go_quiet (fail)
          go_wp2_with fail
          go_roundw
          case rel => exact ⟨k + 1, _, by omega, by go_num, H, by first | rfl | exact World.drewN_drewN _ _ _⟩
          case measure => simp [intOf]; omega
        · have hne := beq_of_ne e
          have H : Hid (decide (L = M) = false) := decide_eq_false (fun h => by subst h; rw [ht] at hu2; cases hu2; exact e rfl)
          clear ht hc e hu2 hc2
          go_wp2_with fail
          go_quiet (fail)
          go_wp2_with fail
          go_ret
          exact ⟨ret_bool H.out.symm, _, World.drewN_drewN _ _ _⟩
      · have H : Hid (decide (L = M) = true) := decide_eq_true (Agree.all (by have h1 := hu.out; have h2 := hl.out; rw [h2]; rw [show n = k by omega]; exact h1) (hl.out.trans hml.out.symm))
        go_wp2_with fail
        go_ret
        exact ⟨ret_bool H.out.symm, _, rfl⟩
  · have hne : ((n : Int) != (m : Int)) = true := by rw [bne_iff_ne]; omega
    have hne2 : ((n : Int) == (m : Int)) = false := by rw [beq_eq_false_iff_ne]; omega
    have H : Hid (decide (L = M) = false) := decide_eq_false (fun h => by subst h; have h1 := hl.out; have h2 := hml.out; omega)
    go_enter Try.func49, Try.ntmps49
    go_wp2_with fail
    go_ret
    exact ⟨ret_bool H.out.symm, 0, rfl⟩

theorem e_eq_t (A : Option Addr) (n c : Nat) (B : Option Addr) (m d : Nat) (L : List ByteArray) (w : World) (hL : Strs w w.heap.size A n L) (hM : Strs w w.heap.size B m L) (hn : n ≤ maxLen) (hm : m ≤ maxLen) :
    Calls Try.prog 49 #[.slice A n c, .slice B m d] w fun e w' => e = .returned (.bool true) ∧ ∃ q, w' = w.drewN q := by
  refine (e_eq A n c L B m d L w hL hM hn hm).mono fun e w' h => ?_
  rw [decide_eq_true (rfl : L = L)] at h
  exact h
/-- A size is returned: below 0, or all is small. -/
def Sz (n : Nat) (L : List ByteArray) (left : Nat) (e : Ending) : Prop := (e = .returned (.int .i64 (-1))) ∨ ∃ r : Nat, e = .returned (.int .i64 r) ∧ r ≤ left ∧ n ≤ left ∧ ∀ s ∈ L, s.size ≤ left
set_option maxHeartbeats 1000000 in
theorem e_sz (A : Option Addr) (n c : Nat) (L : List ByteArray) (left : Nat) (w : World) (hL : Strs w w.heap.size A n L) (hS : Small L) (hn : n ≤ maxLen) (hl2 : left ≤ 1048576) :
    Calls Try.prog 89 #[.slice A n c, .int .i64 left] w fun e w' => Sz n L left e ∧ w = w' := by
  unfold maxLen at hn
  have hl := hide hL.1
  have HL := hide hL.2
  have HS := hide hS
  clear hL hS
  by_cases h0 : left < n
  · have hlt : (left : Int) < (n : Int) := by omega
    go_enter Try.func89, Try.ntmps89
    go_wp2_with fail
    go_ret
    exact ⟨.inl rfl, rfl⟩
  obtain ⟨d, rfl⟩ : ∃ d, left = d + n := ⟨left - n, by omega⟩
  go_enter Try.func89, Try.ntmps89
  go_wp2_with fail
  go_loop [1, 5] (fun r i => ∃ k x : Nat, k ≤ n ∧ i = .int .i64 k ∧ r = .int .i64 x ∧ x ≤ d ∧ Hid (∀ j s, j < k → L[j]? = some s → s.size ≤ d)) (fun _ i => n - (intOf i).toNat)
  case atStart => exact ⟨0, d, Nat.zero_le _, rfl, by simp, Nat.le_refl _, fun j s h => absurd h (by omega)⟩
  case round =>
    obtain ⟨k, x, hk, rfl, rfl, hx, hu⟩ := hrel
    by_cases hlt : k < n
    · obtain ⟨g, off, rfl, hb, hc⟩ := HL.out (by omega)
      obtain ⟨t, ht⟩ : ∃ t, L[k]? = some t := ⟨L[k]'(by have := hl.out; omega), List.getElem?_eq_getElem _⟩
      have hck := hc k t ht
      have hts := HS.out t (List.mem_of_getElem? ht)
      unfold maxLen at hts
      by_cases hxt : x < t.size
      · clear ht hc
        go_wp2_with fail
        go_ret
        exact ⟨.inl rfl, rfl⟩
      · have H : Hid (∀ j s, j < k + 1 → L[j]? = some s → s.size ≤ d) := fun j s hj hs => by
          by_cases e : j = k
          · subst e; rw [ht] at hs; cases hs; omega
          · exact hu.out j s (by omega) hs
        clear ht hc
        go_wp2_with fail
        go_round
        case rel => exact ⟨k + 1, x - t.size, by omega, by go_num, by go_num, by omega, H⟩
        case measure => simp [intOf]; omega
    · go_wp2_with fail
      go_ret
      refine ⟨.inr ⟨x, rfl, by omega, by omega, fun s hs => ?_⟩, rfl⟩
      obtain ⟨j, hj, rfl⟩ := List.mem_iff_getElem.1 hs
      have := hu.out j L[j] (by have := hl.out; omega) (List.getElem?_eq_getElem hj)
      omega

set_option maxHeartbeats 1000000 in
theorem e_to (A : Option Addr) (n c : Nat) (L : List ByteArray) (w : World) (hL : Strs w w.heap.size A n L) (hn : n ≤ 1048576) :
    Calls Try.prog 90 #[.slice A n c] w fun e w' => e = .returned (.slice (some ⟨w.heap.size, 0, none⟩) n n) ∧ w'.ownsRow w.heap.size 9 1 (.slice (some ⟨w.heap.size, 0, none⟩) n n) n (L.map Value.string) ∧ Below w.heap.size w w' := by
  obtain ⟨i0, hi0, hz0, hz1, hz2⟩ := info_parts str_info
  have hU := Try.underlying26
  have hl := hide hL.1
  have HL := hide hL.2
  clear hL
  have b1 : i0.bytes * n ≤ 281474976710656 := by rw [hz2]; omega
  have b2 : n ≤ maxLen := by unfold maxLen; omega
  go_enter Try.func90, Try.ntmps90
  go_wp2_with (at_make
               refine wpList_make_full _ rfl (.tmp 6) (.tmp 6) _ rfl w.heap.size 9 i0 _ 1 hU hi0 hz0 hz1 .i64 .i64 (n : Int) (n : Int) n rfl rfl rfl rfl b1 b2 (Nat.le_refl _) ?_
               intro w1 own1 gr1
               have hb1 : Below w.heap.size w w1 := (Below.refl _ _).grown gr1 (Nat.le_refl _) (by simp)
               clear gr1)
  go_loopw [4] (fun i wr => ∃ (k : Nat) (Z : List Value), k ≤ n ∧ i = .int .i64 k ∧ wr.ownsRow w.heap.size 9 1 (.slice (some ⟨w.heap.size, 0, none⟩) n n) n Z ∧ Hid (∀ j s, j < k → L[j]? = some s → Z[j]? = some (.string s)) ∧ Below w.heap.size w wr) (fun i _ => n - (intOf i).toNat)
  case atStart => exact ⟨0, _, Nat.zero_le _, rfl, own1, fun j s h => absurd h (by omega), hb1⟩
  case round =>
    obtain ⟨k, Z, hk, rfl, hown, hu, hbr⟩ := hrel
    have hz := hide hown.1
    by_cases hlt : k < n
    · obtain ⟨g, off, rfl, hb, hc⟩ := HL.out (by omega)
      obtain ⟨t, ht⟩ : ∃ t, L[k]? = some t := ⟨L[k]'(by have := hl.out; omega), List.getElem?_eq_getElem _⟩
      have hck : wr.cell? ⟨g, off + k, none⟩ = some (.string t) := (hbr.cell hb).trans (hc k t ht)
      obtain ⟨z, hzk⟩ : ∃ z, Z[k]? = some z := ⟨Z[k]'(by have := hz.out; omega), List.getElem?_eq_getElem _⟩
      have hcz : wr.cell? ⟨w.heap.size, k, none⟩ = some z := (hown.cellAt k (by omega)).trans hzk
      have hfz : wr.frozen? ⟨w.heap.size, k, none⟩ = false := hown.frozenAt k
      have hst := (hown.stored k (.string t)).1
      have H : Hid (∀ j s, j < k + 1 → L[j]? = some s → (Z.set k (.string t))[j]? = some (.string s)) := fun j s hj hs => by
        by_cases e : j = k
        · subst e; rw [ht] at hs; cases hs
          exact List.getElem?_set_self (by have := hz.out; omega)
        · rw [List.getElem?_set_ne (by omega)]
          exact hu.out j s (by omega) hs
      clear ht hc hzk
      go_wp2_with fail
      go_roundw
      case rel => exact ⟨k + 1, _, by omega, by go_num, hst, H, hbr.setCell (Nat.le_refl _) _⟩
      case measure => simp [intOf]; omega
    · have HZ : Hid (Z = L.map Value.string) := by
        have h1 := hz.out
        have h2 := hl.out
        have h3 := hu.out
        apply List.ext_getElem? ; intro j
        rcases Nat.lt_or_ge j n with hj | hj
        · have hs : L[j]? = some (L[j]'(by omega)) := List.getElem?_eq_getElem _
          rw [h3 j _ (by omega) hs, List.getElem?_map, hs]; rfl
        · rw [List.getElem?_eq_none (by omega), List.getElem?_eq_none (by simp; omega)]
      go_wp2_with fail
      go_ret
      exact ⟨rfl, by rw [← HZ.out]; exact hown, hbr⟩
theorem Strs.of_open {w : World} {x : Addr} {len cap : Nat} {ss : List ByteArray} (hl : len ≤ cap) (hz : ss.length = cap) (hcell : ∀ i, i < ss.length → w.cell? (x.add i) = some (.string (ss.getD i ByteArray.empty))) :
    Strs w w.heap.size (some x) len (ss.take len) := by
  refine ⟨by rw [List.length_take]; omega, fun h0 => ?_⟩
  obtain ⟨b, off, spot⟩ := x
  have h := hcell 0 (by omega)
  have hspot : spot = none := by simpa [Addr.add] using World.cell?_spot h
  subst hspot
  refine ⟨b, off, rfl, ?_, fun j s hs => ?_⟩
  · have := World.block_lt_of_cell? w _ h
    simpa [Addr.add] using this
  · have hj : j < len := by have := (List.getElem?_eq_some_iff.1 hs).1; rw [List.length_take] at this; omega
    rw [List.getElem?_take, if_pos hj] at hs
    obtain ⟨hj2, e⟩ := List.getElem?_eq_some_iff.1 hs
    have hc := hcell j hj2
    have e2 : (⟨b, off, none⟩ : Addr).add j = ⟨b, off + j, none⟩ := by unfold Addr.add; split <;> simp_all
    rw [e2] at hc
    rw [hc]
    simp [List.getD, hj2, e]

end Go.Proofs.Ytimpmlmkhjeajaa

/- Words of the exact laws: marks. -/
set_option linter.unusedVariables false
set_option linter.unusedSimpArgs false
namespace Go.Proofs.Ytimpmlmkhjeajaa
open Go.RowKit

/-- n marks from k on. -/
def marks (k n : Nat) : List ByteArray := (List.range n).map fun i => mkT (k + i)
theorem marks_len (k n : Nat) : (marks k n).length = n := by simp [marks]
theorem marks_at {k n j : Nat} (h : j < n) : (marks k n)[j]? = some (mkT (k + j)) := by simp [marks, h]

set_option maxHeartbeats 1000000 in
theorem e_marks (base : Nat) (A : Option Addr) (n c k : Nat) (L : List ByteArray) (w : World) (own : w.ownsRow base 9 1 (.slice A n c) n (L.map Value.string)) (hk : 1 ≤ k) (hk2 : k ≤ 3000000) (hn : n ≤ 2000000) :
    Calls Try.prog 50 #[.slice A n c, .int .i64 k] w fun e w' => e = .returned (.int .i64 ((k + n : Nat) : Int)) ∧ w'.ownsRow base 9 1 (.slice A n c) n ((marks k n).map Value.string) ∧ w.grownBy w' (Value.slice A n c).ownBlock := by
  have hlen := hide own.1
  rcases own_form own with ⟨rfl, rfl⟩ | ⟨b, rfl⟩
  · go_enter Try.func50, Try.ntmps50
    go_wp2_with fail
    go_loopw [1, 5] (fun r i wr => r = .int .i64 k ∧ i = .int .i64 0 ∧ wr = w) (fun _ _ _ => 0)
    case atStart => exact ⟨rfl, rfl, rfl⟩
    case round =>
      obtain ⟨rfl, rfl, rfl⟩ := hrel
      go_wp2_with fail
      go_ret
      have hL0 : L = [] := List.eq_nil_of_length_eq_zero (by have h := hlen.out; rw [List.length_map] at h; omega)
      rw [hL0] at own
      exact ⟨rfl, own, World.grownBy.refl _ _⟩
  · go_enter Try.func50, Try.ntmps50
    go_wp2_with fail
    go_loopw [1, 5] (fun r i wr => ∃ (j : Nat) (Z : List Value), j ≤ n ∧ r = .int .i64 ((k + j : Nat) : Int) ∧ i = .int .i64 j ∧ wr.ownsRow base 9 1 (.slice (some ⟨b, 0, none⟩) n c) n Z ∧ Hid (∀ i, i < j → Z[i]? = some (.string (mkT (k + i)))) ∧ w.grownBy wr (some b)) (fun _ i _ => n - (intOf i).toNat)
    case atStart => exact ⟨0, _, Nat.zero_le _, rfl, rfl, own, fun i h => absurd h (by omega), World.grownBy.refl _ _⟩
    case round =>
      obtain ⟨j, Z, hj, rfl, rfl, hown, hu, hgr⟩ := hrel
      have hz := hide hown.1
      by_cases hlt : j < n
      · go_wp2_with fail
        refine (e_mark (k + j) _ (by omega) (by omega)).mono ?_
        rintro e w3 ⟨rfl, hb3⟩
        have hown3 : w3.ownsRow base 9 1 (.slice (some ⟨b, 0, none⟩) n c) n Z := hown.kept (grown_of_below hb3) (row := none) (.inr (by simp [Value.ownBlock]))
        obtain ⟨z, hzk⟩ : ∃ z, Z[j]? = some z := ⟨Z[j]'(by have := hz.out; omega), List.getElem?_eq_getElem _⟩
        have hcz : w3.cell? ⟨b, j, none⟩ = some z := (hown3.cellAt j (by omega)).trans hzk
        have hfz : w3.frozen? ⟨b, j, none⟩ = false := hown3.frozenAt j
        have hst := hown3.stored j (.string (mkT (k + j)))
        have H : Hid (∀ i, i < j + 1 → (Z.set j (.string (mkT (k + j))))[i]? = some (.string (mkT (k + i)))) := fun i hi => by
          by_cases e : i = j
          · subst e; exact List.getElem?_set_self (by have := hz.out; omega)
          · rw [List.getElem?_set_ne (by omega)]; exact hu.out i (by omega)
        clear hzk
        generalize mkT (k + j) = t at *
        go_wp2_with fail
        go_roundw
        case rel => exact ⟨j + 1, _, by omega, by go_num, by go_num, hst.1, H, grown_tr (grown_tb hgr hb3) hst.2⟩
        case measure => simp [intOf]; omega
      · obtain rfl : j = n := by omega
        have HZ : Hid (Z = (marks k j).map Value.string) := by
          have h1 := hz.out
          have h3 := hu.out
          apply List.ext_getElem? ; intro i
          rcases Nat.lt_or_ge i j with hi | hi
          · rw [h3 i hi, List.getElem?_map, marks_at hi]; rfl
          · rw [List.getElem?_eq_none (by omega), List.getElem?_eq_none (by rw [List.length_map, marks_len]; omega)]
        go_wp2_with fail
        go_ret
        exact ⟨rfl, by rw [← HZ.out]; exact hown, hgr⟩

set_option maxHeartbeats 1000000 in
theorem e_held (A : Option Addr) (n c k : Nat) (w : World) (hL : Strs w w.heap.size A n (marks k n)) (hk : 1 ≤ k) (hk2 : k ≤ 3000000) (hn : n ≤ 2000000) :
    Calls Try.prog 51 #[.slice A n c, .int .i64 k] w fun e w' => e = .returned (.int .i64 ((k + n : Nat) : Int)) ∧ Below w.heap.size w w' := by
  have HL := hide hL.2
  clear hL
  go_enter Try.func51, Try.ntmps51
  go_wp2_with fail
  go_loopw [1, 5] (fun r i wr => ∃ (j : Nat), j ≤ n ∧ r = .int .i64 ((k + j : Nat) : Int) ∧ i = .int .i64 j ∧ Below w.heap.size w wr) (fun _ i _ => n - (intOf i).toNat)
  case atStart => exact ⟨0, Nat.zero_le _, rfl, rfl, Below.refl _ _⟩
  case round =>
    obtain ⟨j, hj, rfl, rfl, hb⟩ := hrel
    by_cases hlt : j < n
    · obtain ⟨g, off, rfl, hgb, hc⟩ := HL.out (by omega)
      have hck : wr.cell? ⟨g, off + j, none⟩ = some (.string (mkT (k + j))) := (hb.cell hgb).trans (hc j _ (marks_at hlt))
      have hgt : g < wr.heap.size := by have := hb.size; omega
      have hm := fun W => e_mark (k + j) W (by omega) (by omega)
      have HM := hide hm
      clear hc hm
      generalize mkT (k + j) = t at *
      go_wp2_with fail
      go_region_with (go_at_call 94; refine (HM.out _).mono ?_; rintro e w3 ⟨rfl, hb3⟩; have hc3 : w3.cell? ⟨g, off + j, none⟩ = some (.string t) := (hb3.cell hgt).trans hck)
      all_goals
        have hb3' : Below wr.heap.size wr w3 := (below_drewN' wr.heap.size wr 1).trans hb3
        have hb13 : Below w.heap.size w w3 := hb.trans (hb3'.mono hb.size)
        go_wp2_with fail
        go_roundw
        case rel => exact ⟨j + 1, by omega, by go_num, by go_num, hb13⟩
        case measure => simp [intOf]; omega
    · obtain rfl : j = n := by omega
      go_wp2_with fail
      go_ret
      exact ⟨rfl, hb⟩
end Go.Proofs.Ytimpmlmkhjeajaa
