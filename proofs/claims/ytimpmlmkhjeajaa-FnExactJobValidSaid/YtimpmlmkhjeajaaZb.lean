/- Texts joined: Base, Nv, Ns, Ns3, App, Later, Pick, Draw1, Own. -/
import Derived.Test.YtimpmlmkhjeajaaZa
import Derived.Below
import Derived.Laws.OwnMore
import Derived.Deep.AppendLies
import Derived.Deep.Draws
import Derived.Laws.Rows
import Derived.Laws.BitsAllLaws
import Derived.Deep.QuietTactic
import Derived.Test.YtimpmlmkhjeajaaProg
import Derived.WalkKit
import Derived.LoopTactic
import Derived.Handy
import Derived.BigQuiet
import Derived.WalkLawsBesides
import Derived.Maps.AppendAt
import Derived.RegionTactic
import Derived.OwnWalk
import Derived.Laws.Slices

/- Words for memory and for the reader of a code: no program. -/
namespace Go.Proofs.Ytimpmlmkhjeajaa
open Go.RowKit

theorem below_drewN {B : Nat} {a w : World} (h : Below B a w) (n : Nat) : Below B a (w.drewN n) := ⟨h.os, h.tape, h.output, h.size, h.block⟩
theorem below_drewN' (B : Nat) (w : World) (n : Nat) : Below B w (w.drewN n) := below_drewN (Below.refl _ _) n
theorem cell_none {w : World} {a : Addr} {v : Value} (h : w.cell? a = some v) : a.spot = none := World.cell?_spot h

/-- Block g is just the cells cs. -/
def Blk (w : World) (g : Nat) (t : TypeId) (cs : Array Value) : Prop := w.heap[g]? = some (.cells cs t (0, 0))
section
variable {w w' : World} {g : Nat} {t : TypeId} {cs : Array Value}
theorem Blk.lt (h : Blk w g t cs) : g < w.heap.size := by
  rcases Nat.lt_or_ge g w.heap.size with hlt | hge
  · exact hlt
  · unfold Blk at h; rw [Array.getElem?_eq_none hge] at h; cases h
theorem Blk.cell (h : Blk w g t cs) (i : Nat) : w.cell? ⟨g, i, none⟩ = cs[i]? := cell_of_row w g i cs t (0, 0) h
theorem Blk.frozen (h : Blk w g t cs) (i : Nat) : w.frozen? ⟨g, i, none⟩ = false := by
  unfold Blk at h
  simp [World.frozen?, h]
theorem Blk.new (w : World) (t : TypeId) (cs : Array Value) : Blk (w.alloc (.cells cs t)) w.heap.size t cs := heap_alloc_new w _
theorem Blk.drewN (h : Blk w g t cs) (n : Nat) : Blk (w.drewN n) g t cs := h
theorem Blk.alloc (h : Blk w g t cs) (o : Obj) : Blk (w.alloc o) g t cs := (Below.heap_alloc w o g h.lt).trans h
theorem Blk.set_ (h : Blk w g t cs) (i : Nat) (u : Value) : Blk (w.setCell ⟨g, i, none⟩ u) g t (cs.setIfInBounds i u) := by
  unfold Blk at h ⊢
  simp [World.setCell, Array.getElem?_modify, h]
theorem Blk.far (h : Blk w g t cs) {p : Addr} (hp : g ≠ p.block) (u : Value) : Blk (w.setCell p u) g t cs := (Below.heap_setCell w p u g hp).trans h
theorem Blk.below {B : Nat} (h : Blk w g t cs) (hb : Below B w w') (hg : g < B) : Blk w' g t cs := (hb.block g hg).trans h
theorem Blk.grown {row : Option Nat} (h : Blk w g t cs) (hb : w.grownBy w' row) (hg : some g ≠ row) : Blk w' g t cs := (hb.block g h.lt hg).trans h
end

/-- Below block B all is as it was but for block g (which lies below B or not). -/
structure But (B g : Nat) (w w' : World) : Prop where
  os : w'.os = w.os
  tape : w'.tape = w.tape
  output : w'.output = w.output
  size : w.heap.size ≤ w'.heap.size
  block : ∀ k, k < B → k ≠ g → w'.heap[k]? = w.heap[k]?
theorem But.refl (B g : Nat) (w : World) : But B g w w := ⟨rfl, rfl, rfl, Nat.le_refl _, fun _ _ _ => rfl⟩
theorem But.trans {B g : Nat} {a b c : World} (h : But B g a b) (k : But B g b c) : But B g a c :=
  ⟨k.os.trans h.os, k.tape.trans h.tape, k.output.trans h.output, Nat.le_trans h.size k.size, fun i hi hn => (k.block i hi hn).trans (h.block i hi hn)⟩
theorem But.of_below {B g : Nat} {a b : World} (h : Below B a b) : But B g a b := ⟨h.os, h.tape, h.output, h.size, fun i hi _ => h.block i hi⟩
theorem But.mono {B B' g : Nat} {a b : World} (h : But B g a b) (hB : B' ≤ B) : But B' g a b := ⟨h.os, h.tape, h.output, h.size, fun i hi hn => h.block i (by omega) hn⟩
theorem But.below {B g : Nat} {a b : World} (h : But B g a b) : Below (min B g) a b := ⟨h.os, h.tape, h.output, h.size, fun i hi => h.block i (by omega) (by omega)⟩
theorem But.set_ {B g : Nat} (w : World) (i : Nat) (u : Value) : But B g w (w.setCell ⟨g, i, none⟩ u) :=
  ⟨rfl, rfl, rfl, by simp [World.setCell], fun k _ hn => Below.heap_setCell _ _ _ _ hn⟩
theorem But.drewN {B g : Nat} {a b : World} (h : But B g a b) (n : Nat) : But B g a (b.drewN n) := ⟨h.os, h.tape, h.output, h.size, h.block⟩

/-- A slice of bytes that came in, as far as it is read. -/
def Code (w : World) (B : Nat) (A : Option Addr) (n : Nat) : Prop :=
  0 < n → ∃ cb off, A = some ⟨cb, off, none⟩ ∧ cb < B ∧ ∀ j, j < n → ∃ v : Nat, v < 256 ∧ w.cell? ⟨cb, off + j, none⟩ = some (.int .u8 v)
theorem Code.less {w : World} {B n m : Nat} {A : Option Addr} (h : Code w B A n) (hm : m ≤ n) : Code w B A m := fun h0 => by
  obtain ⟨cb, off, e, hb, hc⟩ := h (by omega)
  exact ⟨cb, off, e, hb, fun j hj => hc j (by omega)⟩
theorem Code.keep {w w' : World} {B n : Nat} {A : Option Addr} (h : Code w B A n) (hk : ∀ p : Addr, p.block < B → w'.cell? p = w.cell? p) : Code w' B A n := fun h0 => by
  obtain ⟨cb, off, e, hb, hc⟩ := h h0
  refine ⟨cb, off, e, hb, fun j hj => ?_⟩
  obtain ⟨v, hv, hx⟩ := hc j hj
  exact ⟨v, hv, (hk ⟨cb, off + j, none⟩ hb).trans hx⟩
theorem Code.below {w w' : World} {B n : Nat} {A : Option Addr} (h : Code w B A n) (hb : Below B w w') : Code w' B A n := h.keep fun _ hp => hb.cell hp

theorem Code.of_ints {w : World} {x : Addr} {len cap : Nat} {zs : List Int} (hl : len ≤ cap) (hz : zs.length = cap) (hcell : ∀ i, i < zs.length → w.cell? (x.add i) = some (.int .u8 (zs.getD i 0)))
    (hwz : ∀ n ∈ zs, (Lit.int .u8 n).wf = true) : Code w w.heap.size (some x) len := by
  intro h0
  obtain ⟨b, off, spot⟩ := x
  have h := hcell 0 (by omega)
  have hspot : spot = none := by simpa [Addr.add] using World.cell?_spot h
  subst hspot
  refine ⟨b, off, rfl, ?_, fun j hj => ?_⟩
  · have := World.block_lt_of_cell? w _ h
    simpa [Addr.add] using this
  · have hj' : j < zs.length := by omega
    have hc := hcell j hj'
    have e2 : (⟨b, off, none⟩ : Addr).add j = ⟨b, off + j, none⟩ := by unfold Addr.add; split <;> simp_all
    rw [e2] at hc
    have hg : zs.getD j 0 = zs[j] := by simp [List.getD, hj']
    have hw := hwz zs[j] (List.getElem_mem hj')
    rw [hg] at hc
    simp [Lit.wf, IntKind.min, IntKind.max, IntKind.signed, IntKind.bits] at hw
    refine ⟨zs[j].toNat, by omega, ?_⟩
    rw [Int.toNat_of_nonneg hw.1]
    exact hc

/-- The reader: block g holds a short code and the place, at most M. -/
def Rdr (t : TypeId) (w : World) (g p : Nat) : Prop :=
  ∃ A n c, n ≤ 2000 ∧ n ≤ c ∧ Code w g A n ∧ Blk w g t #[.slice A n c, .int .i64 p]
section
variable {t : TypeId} {w w' : World} {g p : Nat}
theorem Rdr.lt (h : Rdr t w g p) : g < w.heap.size := by obtain ⟨_, _, _, _, _, _, hb⟩ := h; exact hb.lt
theorem Rdr.below {B : Nat} (h : Rdr t w g p) (hb : Below B w w') (hg : g < B) : Rdr t w' g p := by
  obtain ⟨A, n, c, h1, h2, h3, h4⟩ := h
  exact ⟨A, n, c, h1, h2, h3.below (hb.mono (by omega)), h4.below hb hg⟩
theorem Rdr.drewN (h : Rdr t w g p) (n : Nat) : Rdr t (w.drewN n) g p := h.below (below_drewN' (g + 1) w n) (by omega)
theorem Rdr.alloc (h : Rdr t w g p) (o : Obj) : Rdr t (w.alloc o) g p := h.below ((Below.refl w.heap.size w).alloc (Nat.le_refl _) o) h.lt
end

theorem ofInt_i64 (a : Nat) (ha : a < 9223372036854775808) : (BitVec.ofInt 64 (a : Int)).toNat = a := by
  rw [BitVec.ofInt_natCast, BitVec.toNat_ofNat]; exact Nat.mod_eq_of_lt (by omega)
theorem i64_xor_nat (a b : Nat) (ha : a < 9223372036854775808) (hb : b < 9223372036854775808) : bits .xor .i64 (a : Int) (b : Int) = ((a ^^^ b : Nat) : Int) := by
  have hx : a ^^^ b < 2 ^ 63 := Nat.xor_lt_two_pow (by omega) (by omega)
  show IntKind.i64.wrap ((BitVec.ofInt 64 (a : Int) ^^^ BitVec.ofInt 64 (b : Int)).toNat : Int) = _
  rw [BitVec.toNat_xor, ofInt_i64 a ha, ofInt_i64 b hb, IntKind.wrap_i64]
  omega
/-- A number, put behind a name: from 0 to n - 1. -/
def In (n : Nat) (e : Ending) : Prop := ∃ k : Nat, k < n ∧ e = .returned (.int .i64 k)

/-! A callee that only reads, inside a region that draws. -/
theorem quiet_add {P : Program} {f : FuncId} {args : Array Value} {w : World} {a n : Nat} {v : Value}
    (h : Calls P f args (w.drewN (a + n)) fun e w' => e = .returned v ∧ ∃ m, w' = (w.drewN (a + n)).drewN m) :
    Calls P f args (w.drewN (a + n)) fun e w'' => e = .returned v ∧ ∃ m, w'' = w.drewN (a + m) :=
  h.mono fun _ _ ⟨he, m, hm⟩ => ⟨he, n + m, by rw [hm, World.drewN_drewN, Nat.add_assoc]⟩
theorem quiet_add_left {P : Program} {f : FuncId} {args : Array Value} {w : World} {a n : Nat} {v : Value}
    (h : Calls P f args (w.drewN (a + n)) fun e w' => e = .returned v ∧ w.drewN (a + n) = w') :
    Calls P f args (w.drewN (a + n)) fun e w'' => e = .returned v ∧ ∃ m, w'' = w.drewN (a + m) :=
  h.mono fun _ _ ⟨he, hm⟩ => ⟨he, n, hm.symm⟩
theorem quiet_left {P : Program} {f : FuncId} {args : Array Value} {w : World} {n : Nat} {v : Value}
    (h : Calls P f args (w.drewN n) fun e w' => e = .returned v ∧ w.drewN n = w') : Calls P f args (w.drewN n) fun e w'' => e = .returned v ∧ ∃ m, w'' = w.drewN m :=
  h.mono fun _ _ ⟨he, hm⟩ => ⟨he, n, hm.symm⟩

/-- A slice value that reads as the cells xs, below block B. -/
def Rd (w : World) (B size : Nat) (A : Option Addr) (n : Nat) (xs : List Value) : Prop :=
  xs.length = n * size ∧ (0 < n → ∃ g off, A = some ⟨g, off, none⟩ ∧ g < B ∧ ∀ j u, xs[j]? = some u → w.cell? ⟨g, off + j, none⟩ = some u)
section
variable {w w' : World} {B B' size n : Nat} {A : Option Addr} {xs : List Value}
theorem Rd.nil : Rd w B size A 0 [] := ⟨by simp, fun h => absurd h (by omega)⟩
theorem Rd.keep (h : Rd w B size A n xs) (hk : ∀ p : Addr, p.block < B → w'.cell? p = w.cell? p) : Rd w' B size A n xs :=
  ⟨h.1, fun hn => by
    obtain ⟨g, off, e, hb, hc⟩ := h.2 hn
    exact ⟨g, off, e, hb, fun j u hu => (hk ⟨g, off + j, none⟩ hb).trans (hc j u hu)⟩⟩
theorem Rd.more (h : Rd w B size A n xs) (hB : B ≤ B') : Rd w B' size A n xs :=
  ⟨h.1, fun hn => by
    obtain ⟨g, off, e, hb, hc⟩ := h.2 hn
    exact ⟨g, off, e, by omega, hc⟩⟩
theorem Rd.below (h : Rd w B size A n xs) (hb : Below B w w') : Rd w' B size A n xs := h.keep fun _ hp => hb.cell hp
theorem Rd.drewN (h : Rd w B size A n xs) (k : Nat) : Rd (w.drewN k) B size A n xs := h
theorem Rd.alloc (h : Rd w B size A n xs) (hB : B ≤ w.heap.size) (o : Obj) : Rd (w.alloc o) B size A n xs := h.below ((Below.refl B w).alloc hB o)
theorem Rd.of_own {base : Nat} {e : TypeId} {c : Nat} (h : w.ownsRow base e size (.slice A n c) n xs) : Rd w w.heap.size size A n xs := by
  refine ⟨h.1, fun hn => ?_⟩
  obtain ⟨g, cap, hv, _, hlt⟩ := h.form hn
  have hA : A = some ⟨g, 0, none⟩ := by injection hv
  subst hA
  refine ⟨g, 0, rfl, hlt, fun j u hu => ?_⟩
  have := h.cells (g := g) rfl j u hu
  rw [Nat.zero_add]
  have e2 : (⟨g, 0, none⟩ : Addr).add j = ⟨g, j, none⟩ := by unfold Addr.add; split <;> simp_all
  rwa [e2] at this
end

/-- A slice of strings. -/
def Strs (w : World) (B : Nat) (A : Option Addr) (n : Nat) (L : List ByteArray) : Prop :=
  L.length = n ∧ (0 < n → ∃ g off, A = some ⟨g, off, none⟩ ∧ g < B ∧ ∀ j s, L[j]? = some s → w.cell? ⟨g, off + j, none⟩ = some (.string s))
section
variable {w w' : World} {B B' n : Nat} {A : Option Addr} {L : List ByteArray}
theorem Strs.keep (h : Strs w B A n L) (hk : ∀ p : Addr, p.block < B → w'.cell? p = w.cell? p) : Strs w' B A n L :=
  ⟨h.1, fun hn => by
    obtain ⟨g, off, e, hb, hc⟩ := h.2 hn
    exact ⟨g, off, e, hb, fun j u hu => (hk ⟨g, off + j, none⟩ hb).trans (hc j u hu)⟩⟩
theorem Strs.more (h : Strs w B A n L) (hB : B ≤ B') : Strs w B' A n L :=
  ⟨h.1, fun hn => by
    obtain ⟨g, off, e, hb, hc⟩ := h.2 hn
    exact ⟨g, off, e, by omega, hc⟩⟩
theorem Strs.below (h : Strs w B A n L) (hb : Below B w w') : Strs w' B A n L := h.keep fun _ hp => hb.cell hp
theorem Strs.drewN (h : Strs w B A n L) (k : Nat) : Strs (w.drewN k) B A n L := h
theorem Strs.alloc (h : Strs w B A n L) (hB : B ≤ w.heap.size) (o : Obj) : Strs (w.alloc o) B A n L := h.below ((Below.refl B w).alloc hB o)
theorem Strs.of_own {base : Nat} {e : TypeId} {c : Nat} (h : w.ownsRow base e 1 (.slice A n c) n (L.map Value.string)) : Strs w w.heap.size A n L := by
  have h1 := h.1
  rw [List.length_map, Nat.mul_one] at h1
  refine ⟨h1, fun hn => ?_⟩
  obtain ⟨g, off, e, hb, hc⟩ := (Rd.of_own h).2 hn
  exact ⟨g, off, e, hb, fun j s hs => hc j _ (by rw [List.getElem?_map, hs]; rfl)⟩
theorem Strs.lit (w : World) (e : TypeId) (L : List ByteArray) (n : Nat) (hn : L.length = n) : Strs (w.alloc (.cells (L.map Value.string).toArray e)) (w.heap.size + 1) (some ⟨w.heap.size, 0, none⟩) n L :=
  ⟨hn, fun _ => ⟨_, 0, rfl, by omega, fun j s hs => by
    rw [(Blk.new w e _).cell]
    simp [hs]⟩⟩
end
/-- A short string is returned. -/
def Str (e : Ending) : Prop := ∃ s : ByteArray, s.size ≤ 5 ∧ e = .returned (.string s)
def shortStr : Value → Bool
  | .string s => decide (s.size ≤ 5)
  | _ => false
theorem shortStr_of {v : Value} (h : shortStr v = true) : ∃ s : ByteArray, s.size ≤ 5 ∧ v = .string s := by
  cases v <;> simp [shortStr] at h
  exact ⟨_, h, rfl⟩
/-- One of the strings of L is returned. -/
def StrIn (L : List ByteArray) (e : Ending) : Prop := ∃ s : ByteArray, s ∈ L ∧ e = .returned (.string s)
end Go.Proofs.Ytimpmlmkhjeajaa

/- impl.NameValid and spec.NameValid compute nvB. -/
namespace Go.Proofs.Ytimpmlmkhjeajaa
open Go.RowKit

set_option maxHeartbeats 400000 in
theorem nt_valid (s : ByteArray) (w : World) (hs : s.size ≤ maxLen) :
    Calls Try.prog 125 #[.string s] w fun e w' => e = .returned (.bool (nvB s)) ∧ w = w' := by
  unfold maxLen at hs
  by_cases h1 : s.size < 1
  · have H : Hid (nvB s = false) := by unfold Hid; unfold nvB; simp; omega
    go_enter Try.func125, Try.ntmps125
    go_wp2
    go_ret
    exact ⟨ret_bool H.out.symm, rfl⟩
  by_cases h4 : 4 < s.size
  · have H : Hid (nvB s = false) := by unfold Hid; unfold nvB; simp; omega
    go_enter Try.func125, Try.ntmps125
    go_wp2
    go_ret
    exact ⟨ret_bool H.out.symm, rfl⟩
  go_enter Try.func125, Try.ntmps125
  go_wp2
  go_loop [14] (fun i => ∃ k : Nat, k ≤ s.size ∧ i = .int .i64 k ∧ Hid (∀ j (h : j < s.size), j < k → ltr s[j] = true)) (fun i => s.size - (intOf i).toNat)
  case atStart => exact ⟨0, Nat.zero_le _, rfl, fun j _ h => absurd h (by omega)⟩
  case round =>
    obtain ⟨k, hk, rfl, ha⟩ := hrel
    by_cases hlt : k < s.size
    · by_cases hlo : (s[k].toNat : Int) < 97
      · have H : Hid (nvB s = false) := nvB_not hlt (by rw [← Bool.not_eq_true, ltr_iff]; omega)
        go_wp2
        go_ret
        exact ⟨ret_bool H.out.symm, rfl⟩
      · by_cases hhi : (122 : Int) < (s[k].toNat : Int)
        · have H : Hid (nvB s = false) := nvB_not hlt (by rw [← Bool.not_eq_true, ltr_iff]; omega)
          go_wp2
          go_ret
          exact ⟨ret_bool H.out.symm, rfl⟩
        · go_wp2
          go_round
          case rel =>
            refine ⟨k + 1, by omega, by go_num, fun j hj hjk => ?_⟩
            by_cases e : j = k
            · subst e; rw [ltr_iff]; omega
            · exact ha.out j hj (by omega)
          case measure => simp [intOf]; omega
    · go_wp2
      go_ret
      exact ⟨ret_bool (nvB_of (by omega) (by omega) (fun j hj => ha.out j hj (by omega))).symm, rfl⟩


set_option maxHeartbeats 400000 in
theorem i_NameValid (s : ByteArray) (w : World) (hs : s.size ≤ maxLen) :
    Calls Try.prog 109 #[.string s] w fun e w' => e = .returned (.bool (nvB s)) ∧ w = w' := by
  go_enter Try.func109, Try.ntmps109
  go_wp2_with fail
  refine (nt_valid s _ hs).mono ?_
  rintro e w' ⟨rfl, rfl⟩
  go_wp2_with fail
  go_ret
  exact ⟨rfl, rfl⟩

def inB (n lo hi : Int) : Bool := decide (lo ≤ n) && decide (n ≤ hi)
theorem inB_t {n lo hi : Int} (h1 : lo ≤ n) (h2 : n ≤ hi) : inB n lo hi = true := by unfold inB; simp [h1, h2]
theorem inB_f {n lo hi : Int} (h : n < lo ∨ hi < n) : inB n lo hi = false := by unfold inB; simp; omega
set_option maxHeartbeats 400000 in
theorem s_in (n lo hi : Int) (w : World) :
    Calls Try.prog 66 #[.int .i64 n, .int .i64 lo, .int .i64 hi] w fun e w' => e = .returned (.bool (inB n lo hi)) ∧ w = w' := by
  by_cases h1 : lo ≤ n
  · by_cases h2 : n ≤ hi
    · have H := hide (inB_t h1 h2)
      go_enter Try.func66, Try.ntmps66
      go_wp2_with fail
      go_ret
      exact ⟨ret_bool H.out.symm, rfl⟩
    · have H := hide (inB_f (n := n) (lo := lo) (hi := hi) (by omega))
      go_enter Try.func66, Try.ntmps66
      go_wp2_with fail
      go_ret
      exact ⟨ret_bool H.out.symm, rfl⟩
  · have H := hide (inB_f (n := n) (lo := lo) (hi := hi) (by omega))
    go_enter Try.func66, Try.ntmps66
    go_wp2_with fail
    go_ret
    exact ⟨ret_bool H.out.symm, rfl⟩

set_option maxHeartbeats 400000 in
theorem s_NameValid (s : ByteArray) (w : World) (hs : s.size ≤ maxLen) :
    Calls Try.prog 102 #[.string s] w fun e w' => e = .returned (.bool (nvB s)) ∧ w = w' := by
  unfold maxLen at hs
  go_enter Try.func102, Try.ntmps102
  go_wp2_with fail
  go_loop [3] (fun i => ∃ k : Nat, k ≤ s.size ∧ i = .int .i64 k ∧ Hid (∀ j (h : j < s.size), j < k → ltr s[j] = true)) (fun i => s.size - (intOf i).toNat)
  case atStart => exact ⟨0, Nat.zero_le _, rfl, fun j _ h => absurd h (by omega)⟩
  case round =>
    obtain ⟨k, hk, rfl, ha⟩ := hrel
    by_cases hlt : k < s.size
    · by_cases hlo : (s[k].toNat : Int) < 97
      · have H : Hid (nvB s = false) := nvB_not hlt (by rw [← Bool.not_eq_true, ltr_iff]; omega)
        go_wp2_with fail
        go_ret
        exact ⟨ret_bool H.out.symm, rfl⟩
      · by_cases hhi : (122 : Int) < (s[k].toNat : Int)
        · have H : Hid (nvB s = false) := nvB_not hlt (by rw [← Bool.not_eq_true, ltr_iff]; omega)
          go_wp2_with fail
          go_ret
          exact ⟨ret_bool H.out.symm, rfl⟩
        · go_wp2_with fail
          go_round
          case rel =>
            refine ⟨k + 1, by omega, by go_num, fun j hj hjk => ?_⟩
            by_cases e : j = k
            · subst e; rw [ltr_iff]; omega
            · exact ha.out j hj (by omega)
          case measure => simp [intOf]; omega
    · have H : Hid (nvB s = inB s.size 1 4) := by
        by_cases h1 : 1 ≤ s.size
        · by_cases h4 : s.size ≤ 4
          · show nvB s = _
            rw [inB_t (by omega) (by omega)]
            exact nvB_of h1 h4 (fun j hj => ha.out j hj (by omega))
          · show nvB s = _
            rw [inB_f (by omega)]; unfold nvB; simp; omega
        · show nvB s = _
          rw [inB_f (by omega)]; unfold nvB; simp; omega
      go_wp2_with fail
      refine (s_in _ _ _ _).mono ?_
      rintro e w' ⟨rfl, rfl⟩
      go_wp2_with fail
      go_ret
      exact ⟨ret_bool H.out.symm, rfl⟩
theorem s_NV {s : ByteArray} {b : Bool} (h : nvB s = b) (w : World) (hs : s.size ≤ maxLen) :
    Calls Try.prog 102 #[.string s] w fun e w' => e = .returned (.bool b) ∧ w = w' := by
  subst h; exact s_NameValid s w hs
theorem i_NV {s : ByteArray} {b : Bool} (h : nvB s = b) (w : World) (hs : s.size ≤ maxLen) :
    Calls Try.prog 109 #[.string s] w fun e w' => e = .returned (.bool b) ∧ w = w' := by
  subst h; exact i_NameValid s w hs
end Go.Proofs.Ytimpmlmkhjeajaa

/- Lists of names: what the program and its model say of them. -/
namespace Go.Proofs.Ytimpmlmkhjeajaa
open Go.RowKit

theorem nsB_len {L : List ByteArray} (h : 10 < L.length) : nsB L = false := nsB_f (fun hh => by omega)
theorem nsB_bad {L : List ByteArray} {k : Nat} {s : ByteArray} (hs : L[k]? = some s) (h : nvB s = false) : nsB L = false :=
  nsB_f (fun hh => by rw [hh.2.1 s (List.mem_of_getElem? hs)] at h; cases h)
theorem nsB_turn {L : List ByteArray} {k : Nat} {s t : ByteArray} (hs : L[k]? = some s) (ht : L[k + 1]? = some t) (h : blt s t = false) : nsB L = false :=
  nsB_f (fun hh => by rw [asc_iff.1 hh.2.2 k s t hs ht] at h; cases h)
/-- The first k names are valid and ascend. -/
def Upto (L : List ByteArray) (k : Nat) : Prop := ∀ j s, j < k → L[j]? = some s → nvB s = true ∧ ∀ t, j + 1 < k → L[j + 1]? = some t → blt s t = true
theorem Upto.zero (L : List ByteArray) : Upto L 0 := fun j _ h => absurd h (by omega)
theorem Upto.one {L : List ByteArray} {s : ByteArray} (hs : L[0]? = some s) (h : nvB s = true) : Upto L 1 := fun j t hj ht => by
  obtain rfl : j = 0 := by omega
  rw [hs] at ht; cases ht
  exact ⟨h, fun _ hh => absurd hh (by omega)⟩
theorem Upto.more {L : List ByteArray} {k : Nat} {r s : ByteArray} (hu : Upto L (k + 1)) (hr : L[k]? = some r) (hs : L[k + 1]? = some s) (h : nvB s = true) (hl : blt r s = true) : Upto L (k + 2) := fun j t hj ht => by
  by_cases e : j = k + 1
  · subst e; rw [hs] at ht; cases ht; exact ⟨h, fun _ hh => absurd hh (by omega)⟩
  · refine ⟨(hu j t (by omega) ht).1, fun u hju hu2 => ?_⟩
    by_cases e2 : j = k
    · subst e2; rw [hr] at ht; rw [hs] at hu2; cases ht; cases hu2; exact hl
    · exact (hu j t (by omega) ht).2 u (by omega) hu2
theorem Upto.all {L : List ByteArray} (h : Upto L L.length) (hl : L.length ≤ 10) : nsB L = true := by
  rw [nsB_iff]
  refine ⟨hl, fun s hs => ?_, asc_iff.2 fun k a b ha hb => ?_⟩
  · obtain ⟨j, hj, rfl⟩ := List.mem_iff_getElem.1 hs
    exact (h j _ hj (List.getElem?_eq_getElem hj)).1
  · have := (List.getElem?_eq_some_iff.1 hb).1
    exact (h k a (by omega) ha).2 b this hb
theorem Upto.long {L : List ByteArray} (hl : ¬ L.length ≤ 10) : nsB L = false := nsB_len (by omega)
/-- The names of a list are short. -/
def Small (L : List ByteArray) : Prop := ∀ s ∈ L, s.size ≤ maxLen

set_option maxHeartbeats 1000000 in
theorem nl_valid (A : Option Addr) (n c : Nat) (L : List ByteArray) (w : World) (hL : Strs w w.heap.size A n L) (hS : Small L) (hn : n ≤ maxLen) :
    Calls Try.prog 124 #[.slice A n c] w fun e w' => e = .returned (.bool (nsB L)) ∧ w = w' := by
  unfold maxLen at hn
  have hl := hide hL.1
  by_cases h10 : 10 < n
  · have H : Hid (nsB L = false) := nsB_len (by have := hl.out; omega)
    clear hL hS
    go_enter Try.func124, Try.ntmps124
    go_wp2_with fail
    go_ret
    exact ⟨ret_bool H.out.symm, rfl⟩
  have hL := hide hL.2
  have hS := hide hS
  go_enter Try.func124, Try.ntmps124
  go_wp2_with fail
  go_loop [3, 4, 10] (fun _ _ i => ∃ k : Nat, k ≤ n ∧ i = .int .i64 k ∧ Hid (Upto L k)) (fun _ _ i => n - (intOf i).toNat)
  case atStart => exact ⟨0, Nat.zero_le _, rfl, Upto.zero L⟩
  case round =>
    obtain ⟨k, hk, rfl, hu⟩ := hrel
    by_cases hlt : k < n
    · obtain ⟨g, off, rfl, hb, hc⟩ := hL.out (by omega)
      obtain ⟨s, hs⟩ : ∃ s, L[k]? = some s := ⟨L[k]'(by have := hl.out; omega), List.getElem?_eq_getElem _⟩
      have hck := hc k s hs
      have hsz := hS.out s (List.mem_of_getElem? hs)
      cases hv : nvB s
      · have H : Hid (nsB L = false) := nsB_bad hs hv
        clear hs hc
        go_wp2_with fail
        refine (nt_valid s _ hsz).mono ?_
        rintro e w' ⟨rfl, rfl⟩
        rw [hv]
        go_wp2_with fail
        go_ret
        exact ⟨ret_bool H.out.symm, rfl⟩
      · rcases k with _ | k
        · have H : Hid (Upto L 1) := Upto.one hs hv
          rw [Nat.add_zero] at hck
          clear hs hc
          go_wp2_with fail
          refine (nt_valid s _ hsz).mono ?_
          rintro e w' ⟨rfl, rfl⟩
          rw [hv]
          go_wp2_with fail
          go_round
          case rel => exact ⟨1, by omega, by go_num, H⟩
          case measure => simp [intOf]; omega
        · obtain ⟨r, hr⟩ : ∃ r, L[k]? = some r := ⟨L[k]'(by have := hl.out; omega), List.getElem?_eq_getElem _⟩
          have hcr := hc k r hr
          cases hrs : blt r s
          · have H : Hid (nsB L = false) := nsB_turn hr hs hrs
            have hrs' : Op.bytesLess r.toList s.toList = false := hrs
            clear hs hr hc hrs
            go_wp2_with fail
            refine (nt_valid s _ hsz).mono ?_
            rintro e w' ⟨rfl, rfl⟩
            rw [hv]
            go_wp2_with fail
            go_ret
            exact ⟨ret_bool H.out.symm, rfl⟩
          · have H : Hid (Upto L (k + 2)) := hu.out.more hr hs hv hrs
            have hrs' : Op.bytesLess r.toList s.toList = true := hrs
            clear hs hr hc hrs
            go_wp2_with fail
            refine (nt_valid s _ hsz).mono ?_
            rintro e w' ⟨rfl, rfl⟩
            rw [hv]
            go_wp2_with fail
            go_round
            case rel => exact ⟨k + 2, by omega, by go_num, H⟩
            case measure => simp [intOf]; omega
    · have H : Hid (nsB L = true) := Upto.all (by have h1 := hu.out; have h2 := hl.out; rw [h2]; rw [show n = k by omega]; exact h1) (by have := hl.out; omega)
      go_wp2_with fail
      go_ret
      exact ⟨ret_bool H.out.symm, rfl⟩

end Go.Proofs.Ytimpmlmkhjeajaa

/- Lists of names: l1At, sameNames, hasName. -/
namespace Go.Proofs.Ytimpmlmkhjeajaa
open Go.RowKit

theorem beq_of_ne {s t : ByteArray} (h : s ≠ t) : (s.toList == t.toList) = false := by
  rw [beq_eq_false_iff_ne]; exact fun e => h (toList_inj e)

/-- The first place of s, or -1. -/
def atI (L : List ByteArray) (s : ByteArray) : Int := if memB L s = true then (L.findIdx (fun t => decide (t = s)) : Int) else -1
theorem atI_of {L : List ByteArray} {s : ByteArray} {k : Nat} (h : L[k]? = some s) (hn : ∀ j, j < k → L[j]? ≠ some s) : atI L s = k := by
  unfold atI
  rw [if_pos (memB_t (List.mem_of_getElem? h))]
  obtain ⟨hk, e⟩ := List.getElem?_eq_some_iff.1 h
  have : L.findIdx (fun t => decide (t = s)) = k := by
    rw [List.findIdx_eq hk]
    refine ⟨by simp [e], fun j hj => ?_⟩
    have := hn j hj
    rw [List.getElem?_eq_getElem (by omega)] at this
    simpa using this
  rw [this]
theorem atI_no {L : List ByteArray} {s : ByteArray} (h : s ∉ L) : atI L s = -1 := by unfold atI; rw [memB_f h]; rfl
theorem not_mem_of {L : List ByteArray} {s : ByteArray} (h : ∀ j, j < L.length → L[j]? ≠ some s) : s ∉ L := fun hm => by
  obtain ⟨j, hj, e⟩ := List.mem_iff_getElem.1 hm
  exact h j hj (by rw [List.getElem?_eq_getElem hj, e])

set_option maxHeartbeats 1000000 in
theorem s_at (A : Option Addr) (n c : Nat) (L : List ByteArray) (s : ByteArray) (w : World) (hL : Strs w w.heap.size A n L) (hn : n ≤ maxLen) :
    Calls Try.prog 103 #[.slice A n c, .string s] w fun e w' => e = .returned (.int .i64 (atI L s)) ∧ w = w' := by
  unfold maxLen at hn
  have hl := hide hL.1
  have hL := hide hL.2
  go_enter Try.func103, Try.ntmps103
  go_wp2_with fail
  go_loop [5] (fun i => ∃ k : Nat, k ≤ n ∧ i = .int .i64 k ∧ Hid (∀ j, j < k → L[j]? ≠ some s)) (fun i => n - (intOf i).toNat)
  case atStart => exact ⟨0, Nat.zero_le _, rfl, fun j h => absurd h (by omega)⟩
  case round =>
    obtain ⟨k, hk, rfl, hu⟩ := hrel
    by_cases hlt : k < n
    · obtain ⟨g, off, rfl, hb, hc⟩ := hL.out (by omega)
      obtain ⟨t, ht⟩ : ∃ t, L[k]? = some t := ⟨L[k]'(by have := hl.out; omega), List.getElem?_eq_getElem _⟩
      have hck := hc k t ht
      by_cases e : t = s
      · subst e
        have H : Hid (atI L t = k) := atI_of ht hu.out
        clear ht hc
        go_wp2_with fail
        go_ret
        exact ⟨ret_int H.out.symm, rfl⟩
      · have hne := beq_of_ne e
        have H : Hid (∀ j, j < k + 1 → L[j]? ≠ some s) := fun j hj hs => by
          by_cases ej : j = k
          · subst ej; rw [ht] at hs; cases hs; exact e rfl
          · exact hu.out j (by omega) hs
        clear ht hc e
        go_wp2_with fail
        go_round
        case rel => exact ⟨k + 1, by omega, by go_num, H⟩
        case measure => simp [intOf]; omega
    · have H : Hid (atI L s = -1) := atI_no (not_mem_of fun j hj => hu.out j (by have := hl.out; omega))
      go_wp2_with fail
      go_ret
      exact ⟨ret_int H.out.symm, rfl⟩

set_option maxHeartbeats 1000000 in
theorem l_has (A : Option Addr) (n c : Nat) (L : List ByteArray) (s : ByteArray) (w : World) (hL : Strs w w.heap.size A n L) (hn : n ≤ maxLen) :
    Calls Try.prog 37 #[.slice A n c, .string s] w fun e w' => e = .returned (.bool (memB L s)) ∧ w = w' := by
  unfold maxLen at hn
  have hl := hide hL.1
  have hL := hide hL.2
  go_enter Try.func37, Try.ntmps37
  go_wp2_with fail
  go_loop [5] (fun i => ∃ k : Nat, k ≤ n ∧ i = .int .i64 k ∧ Hid (∀ j, j < k → L[j]? ≠ some s)) (fun i => n - (intOf i).toNat)
  case atStart => exact ⟨0, Nat.zero_le _, rfl, fun j h => absurd h (by omega)⟩
  case round =>
    obtain ⟨k, hk, rfl, hu⟩ := hrel
    by_cases hlt : k < n
    · obtain ⟨g, off, rfl, hb, hc⟩ := hL.out (by omega)
      obtain ⟨t, ht⟩ : ∃ t, L[k]? = some t := ⟨L[k]'(by have := hl.out; omega), List.getElem?_eq_getElem _⟩
      have hck := hc k t ht
      by_cases e : t = s
      · subst e
        have H : Hid (memB L t = true) := memB_t (List.mem_of_getElem? ht)
        clear ht hc
        go_wp2_with fail
        go_ret
        exact ⟨ret_bool H.out.symm, rfl⟩
      · have hne := beq_of_ne e
        have H : Hid (∀ j, j < k + 1 → L[j]? ≠ some s) := fun j hj hs => by
          by_cases ej : j = k
          · subst ej; rw [ht] at hs; cases hs; exact e rfl
          · exact hu.out j (by omega) hs
        clear ht hc e
        go_wp2_with fail
        go_round
        case rel => exact ⟨k + 1, by omega, by go_num, H⟩
        case measure => simp [intOf]; omega
    · have H : Hid (memB L s = false) := memB_f (not_mem_of fun j hj => hu.out j (by have := hl.out; omega))
      go_wp2_with fail
      go_ret
      exact ⟨ret_bool H.out.symm, rfl⟩

def Agree (L M : List ByteArray) (k : Nat) : Prop := ∀ j, j < k → L[j]? = M[j]?
theorem Agree.all {L M : List ByteArray} (h : Agree L M L.length) (hl : L.length = M.length) : L = M := by
  apply List.ext_getElem? ; intro j
  rcases Nat.lt_or_ge j L.length with h1 | h1
  · exact h j h1
  · rw [List.getElem?_eq_none h1, List.getElem?_eq_none (by omega)]

set_option maxHeartbeats 1000000 in
theorem l_same (A : Option Addr) (n c : Nat) (L : List ByteArray) (B : Option Addr) (m d : Nat) (M : List ByteArray) (w : World) (hL : Strs w w.heap.size A n L) (hM : Strs w w.heap.size B m M) (hn : n ≤ maxLen) (hm : m ≤ maxLen) :
    Calls Try.prog 24 #[.slice A n c, .slice B m d] w fun e w' => e = .returned (.bool (decide (L = M))) ∧ ∃ q, w' = w.drewN q := by
  unfold maxLen at hn hm
  have hl := hide hL.1
  have hL := hide hL.2
  have hml := hide hM.1
  have hM := hide hM.2
  by_cases hnm : n = m
  · subst hnm
    go_enter Try.func24, Try.ntmps24
    go_wp2_with fail
    go_loopw [5] (fun i wr => ∃ k q : Nat, k ≤ n ∧ i = .int .i64 k ∧ Hid (Agree L M k) ∧ wr = w.drewN q) (fun i _ => n - (intOf i).toNat)
    case atStart => exact ⟨0, 0, Nat.zero_le _, rfl, fun j h => absurd h (by omega), rfl⟩
    case round =>
      obtain ⟨k, q, hk, rfl, hu, rfl⟩ := hrel
      by_cases hlt : k < n
      · obtain ⟨g, off, rfl, hb, hc⟩ := hL.out (by omega)
        obtain ⟨g2, off2, rfl, hb2, hc2⟩ := hM.out (by omega)
        obtain ⟨t, ht⟩ : ∃ t, L[k]? = some t := ⟨L[k]'(by have := hl.out; omega), List.getElem?_eq_getElem _⟩
        obtain ⟨u, hu2⟩ : ∃ t, M[k]? = some t := ⟨M[k]'(by have := hml.out; omega), List.getElem?_eq_getElem _⟩
        have hck := hc k t ht
        have hck2 := hc2 k u hu2
        by_cases e : t = u
        · subst e
          have H : Hid (Agree L M (k + 1)) := fun j hj => by
            by_cases ej : j = k
            · subst ej; rw [ht, hu2]
            · exact hu.out j (by omega)
          clear ht hc hu2 hc2
          go_wp2_with fail
          go_quiet (fail)
          go_wp2_with fail
          go_roundw
          case rel => exact ⟨k + 1, _, by omega, by go_num, H, by first | rfl | exact World.drewN_drewN _ _ _⟩
          case measure => simp [intOf]; omega
        · have hne := beq_of_ne e
          have H : Hid (decide (L = M) = false) := decide_eq_false (fun h => by subst h; rw [ht] at hu2; cases hu2; exact e rfl)
          clear ht hc e hu2 hc2
          go_wp2_with fail
          go_quiet (fail)
          go_wp2_with fail
          go_ret
          exact ⟨ret_bool H.out.symm, _, World.drewN_drewN _ _ _⟩
      · have H : Hid (decide (L = M) = true) := decide_eq_true (Agree.all (by have h1 := hu.out; have h2 := hl.out; rw [h2]; rw [show n = k by omega]; exact h1) (hl.out.trans hml.out.symm))
        go_wp2_with fail
        go_ret
        exact ⟨ret_bool H.out.symm, _, rfl⟩
  · have hne : ((n : Int) != (m : Int)) = true := by rw [bne_iff_ne]; omega
    have hne2 : ((n : Int) == (m : Int)) = false := by rw [beq_eq_false_iff_ne]; omega
    have H : Hid (decide (L = M) = false) := decide_eq_false (fun h => by subst h; have h1 := hl.out; have h2 := hml.out; omega)
    go_enter Try.func24, Try.ntmps24
    go_wp2_with fail
    go_ret
    exact ⟨ret_bool H.out.symm, 0, rfl⟩
end Go.Proofs.Ytimpmlmkhjeajaa

/- append of whatever source onto a row of the call's own. No program. -/
namespace Go.Proofs.Ytimpmlmkhjeajaa
open Go.RowKit

theorem add_at (g off j : Nat) : (⟨g, off, none⟩ : Addr).add j = ⟨g, off + j, none⟩ := by unfold Addr.add; split <;> simp_all

section
variable {P : Program} (w : World)
theorem append_nil_run (base : Nat) (t ty e : TypeId) (i : TypeInfo) (size : Nat) (ht : P.underlying t = some (.slice e)) (hi : P.info? e = some i)
    (v : Value) (n : Nat) (xs : List Value) (hown : w.ownsRow base e size v n xs) (c : Nat) : (Builtin.append_ #[t, t] ty #[v, .slice none 0 c]).run P w = .ok v w := by
  rcases hown.2 with ⟨rfl, rfl⟩ | ⟨g, cap, cur, rfl, _, _, hnc, _⟩
  · simp [Builtin.append_, run_underlying ht, sizeOf, typeInfo, hi, Builtin.lenOf, Builtin.firstCells]
  · simp [Builtin.append_, run_underlying ht, sizeOf, typeInfo, hi, Builtin.lenOf, Builtin.firstCells, hnc, storeCells]

theorem append_rd_run (base : Nat) (t ty e : TypeId) (i : TypeInfo) (z : Value) (size bytes : Nat) (ht : P.underlying t = some (.slice e)) (hi : P.info? e = some i) (hz : i.zero = some z)
    (hsize : i.size = size) (hby : i.bytes = bytes) (hzs : z.cells.size = size) (hsz : 0 < size)
    (v : Value) (n : Nat) (xs : List Value) (hown : w.ownsRow base e size v n xs)
    (B : Nat) (A : Option Addr) (m c : Nat) (news : List Value) (hr : Rd w B size A m news) (h1 : ∀ u ∈ news, u.oneCell' = true)
    (h63 : n + m ≤ maxLen) (hbytes : (n + m) * bytes ≤ 140737488355328) (hbase : base ≤ w.heap.size) :
    ∃ v' w', (Builtin.append_ #[t, t] ty #[v, .slice A m c]).run P w = .ok v' w' ∧ w'.ownsRow base e size v' (n + m) (xs ++ news) ∧ w.grownBy w' v.ownBlock ∧
      (v'.ownBlock = v.ownBlock ∨ v'.ownBlock = some w.heap.size) := by
  have hzero : m = 0 → news = [] := fun h0 => List.eq_nil_of_length_eq_zero (by have := hr.1; simp [h0] at this; simp [this])
  rcases A with _ | ad
  · have hm : m = 0 := by
      rcases Nat.eq_zero_or_pos m with h0 | h0
      · exact h0
      · obtain ⟨_, _, h, _⟩ := hr.2 h0; cases h
    have hn := hzero hm
    subst hm hn
    exact ⟨v, w, append_nil_run w base t ty e i size ht hi v n xs hown c, by simpa using hown, World.grownBy.refl w _, .inl rfl⟩
  · have hcells : ∀ j u, news[j]? = some u → w.cell? (ad.add j) = some u := by
      intro j u hu
      rcases Nat.eq_zero_or_pos m with h0 | h0
      · rw [hzero h0] at hu; simp at hu
      · obtain ⟨g, off, h, _, hc⟩ := hr.2 h0
        injection h with h
        subst h
        rw [add_at]
        exact hc j u hu
    obtain ⟨v', w', hrun, h2, h3, _, h5⟩ := run_append_own_at (P := P) w base t ty e i z size bytes ht hi hz hsize hby hzs hsz v n xs hown ad m c news hr.1 hcells h1 h63 hbytes hbase
    exact ⟨v', w', hrun, h2, h3, h5⟩

theorem wp_append_rd {o : Oper} {a : Act} {K : Act → World → Prop} {Q : Exit → Act → World → Prop} (s x : Operand) (t : TypeId)
    (ho : o.op = .call { callee := .builtin .append, args := #[s, x], argTypes := #[t, t] })
    (base : Nat) (e : TypeId) (i : TypeInfo) (z : Value) (size bytes : Nat) (ht : P.underlying t = some (.slice e)) (hi : P.info? e = some i) (hz : i.zero = some z)
    (hsize : i.size = size) (hby : i.bytes = bytes) (hzs : z.cells.size = size) (hsz : 0 < size)
    (v : Value) (n : Nat) (xs : List Value) (hs : a.eval s = v) (hown : w.ownsRow base e size v n xs)
    (B : Nat) (A : Option Addr) (m c : Nat) (news : List Value) (hx : a.eval x = .slice A m c) (hr : Rd w B size A m news) (h1 : ∀ u ∈ news, u.oneCell' = true)
    (h63 : n + m ≤ maxLen) (hbytes : (n + m) * bytes ≤ 140737488355328) (hbase : base ≤ w.heap.size)
    (h : ∀ v' w', w'.ownsRow base e size v' (n + m) (xs ++ news) → w.grownBy w' v.ownBlock → (v'.ownBlock = v.ownBlock ∨ v'.ownBlock = some w.heap.size) → K (a.put o.dst v') w') : o.wp P a w K Q := by
  obtain ⟨v', w', hrun, h2, h3, h4⟩ := append_rd_run (P := P) w base t o.type e i z size bytes ht hi hz hsize hby hzs hsz v n xs hown B A m c news hr h1 h63 hbytes hbase
  unfold Oper.wp execOp
  simp only [ho, resolve, invoke, builtin, Sem.run_bind, Sem.run_pure, Result.andThen_ok, List.map_toArray, List.map_cons, List.map_nil, hs, hx, hrun]
  exact h v' w' h2 h3 h4

theorem wpList_append_rd {ops : Array Oper} {rest : List Oper} {o : Oper} {a : Act} {Q : Exit → Act → World → Prop} (hgd : o.guard = none) (s x : Operand) (t : TypeId)
    (ho : o.op = .call { callee := .builtin .append, args := #[s, x], argTypes := #[t, t] })
    (base : Nat) (e : TypeId) (i : TypeInfo) (z : Value) (size bytes : Nat) (ht : P.underlying t = some (.slice e)) (hi : P.info? e = some i) (hz : i.zero = some z)
    (hsize : i.size = size) (hby : i.bytes = bytes) (hzs : z.cells.size = size) (hsz : 0 < size)
    (v : Value) (n : Nat) (xs : List Value) (hs : a.eval s = v) (hown : w.ownsRow base e size v n xs)
    (B : Nat) (A : Option Addr) (m c : Nat) (news : List Value) (hx : a.eval x = .slice A m c) (hr : Rd w B size A m news) (h1 : ∀ u ∈ news, u.oneCell' = true)
    (h63 : n + m ≤ maxLen) (hbytes : (n + m) * bytes ≤ 140737488355328) (hbase : base ≤ w.heap.size)
    (h : ∀ v' w', w'.ownsRow base e size v' (n + m) (xs ++ news) → w.grownBy w' v.ownBlock → (v'.ownBlock = v.ownBlock ∨ v'.ownBlock = some w.heap.size) → wpList P ops Q rest (a.put o.dst v') w') : wpList P ops Q (o :: rest) a w :=
  wpList_plain hgd fun _ hK => wp_append_rd w s x t ho base e i z size bytes ht hi hz hsize hby hzs hsz v n xs hs hown B A m c news hx hr h1 h63 hbytes hbase fun v' w' h2 h3 h4 => hK _ _ (h v' w' h2 h3 h4)
theorem step_append_rd {ops : Array Oper} {o : Oper} {a : Act} {K : Act → World → Prop} {Q : Exit → Act → World → Prop} {E : Prop} (hgd : o.guard = none) (s x : Operand) (t : TypeId)
    (ho : o.op = .call { callee := .builtin .append, args := #[s, x], argTypes := #[t, t] })
    (base : Nat) (e : TypeId) (i : TypeInfo) (z : Value) (size bytes : Nat) (ht : P.underlying t = some (.slice e)) (hi : P.info? e = some i) (hz : i.zero = some z)
    (hsize : i.size = size) (hby : i.bytes = bytes) (hzs : z.cells.size = size) (hsz : 0 < size)
    (v : Value) (n : Nat) (xs : List Value) (hs : a.eval s = v) (hown : w.ownsRow base e size v n xs)
    (B : Nat) (A : Option Addr) (m c : Nat) (news : List Value) (hx : a.eval x = .slice A m c) (hr : Rd w B size A m news) (h1 : ∀ u ∈ news, u.oneCell' = true)
    (h63 : n + m ≤ maxLen) (hbytes : (n + m) * bytes ≤ 140737488355328) (hbase : base ≤ w.heap.size)
    (h : ∀ v' w', w'.ownsRow base e size v' (n + m) (xs ++ news) → w.grownBy w' v.ownBlock → (v'.ownBlock = v.ownBlock ∨ v'.ownBlock = some w.heap.size) → K (a.put o.dst v') w') :
    if Region.wanted o (yielded ops a.tmps) = true then Oper.wp P o a w K Q else E := by
  have hw : Region.wanted o (yielded ops a.tmps) = true := by simp [Region.wanted, hgd]
  rw [if_pos hw]
  exact wp_append_rd w s x t ho base e i z size bytes ht hi hz hsize hby hzs hsz v n xs hs hown B A m c news hx hr h1 h63 hbytes hbase h
end

theorem Below.own {B base : Nat} {a w w' : World} {e : TypeId} {size n : Nat} {v : Value} {xs : List Value} (h : Below B a w) (hg : w.grownBy w' v.ownBlock) (ho : w.ownsRow base e size v n xs) (hB : B ≤ base) (hbw : B ≤ w.heap.size) : Below B a w' :=
  h.grown hg hbw (fun k hk => Nat.le_trans hB (ho.lt k hk).1)
/-- A new block of one cell, as a source. -/
theorem Rd.one (w : World) (e : TypeId) (x : Value) : Rd (w.alloc (.cells #[x] e)) (w.heap.size + 1) 1 (some ⟨w.heap.size, 0, none⟩) 1 [x] :=
  ⟨rfl, fun _ => ⟨_, 0, rfl, by omega, fun j u hu => by
    rw [(Blk.new w e #[x]).cell]
    rcases j with _ | j
    · simpa using hu
    · simp at hu⟩⟩
theorem Rd.of_strs {w : World} {B n : Nat} {A : Option Addr} {L : List ByteArray} (h : Strs w B A n L) : Rd w B 1 A n (L.map Value.string) :=
  ⟨by rw [List.length_map, h.1, Nat.mul_one], fun hn => by
    obtain ⟨g, off, e, hb, hc⟩ := h.2 hn
    refine ⟨g, off, e, hb, fun j u hu => ?_⟩
    rw [List.getElem?_map, Option.map_eq_some_iff] at hu
    obtain ⟨s, hs, rfl⟩ := hu
    exact hc j s hs⟩
theorem one_strs (L : List ByteArray) : ∀ u ∈ L.map Value.string, u.oneCell' = true := by
  intro u hu
  obtain ⟨s, _, rfl⟩ := List.mem_map.1 hu
  rfl

section
variable {P : Program}
theorem elem_of_underlying {t e : TypeId} (h : P.underlying t = some (.slice e)) : P.elem t = e := by simp [Program.elem, h]
theorem size_run {e : TypeId} {i : TypeInfo} (hi : P.info? e = some i) (W : World) : (sizeOf e).run P W = .ok i.size W := by simp [sizeOf, typeInfo, hi]
/-- 'x[:k]', x whatever slice: its value behind a name; what it reads as. -/
theorem slice_to {t e : TypeId} {i : TypeInfo} {size : Nat} (ht : P.underlying t = some (.slice e)) (hi : P.info? e = some i) (hsz : i.size = size) (A : Option Addr) (n c k : Nat) (z : Int) (hz : z = (k : Int)) (hk : k ≤ n) (hnc : n ≤ c) :
    ∃ E, (∀ W : World, (Instr.slice t (.slice A n c) none (some (.int .i64 z)) none).run P W = .ok (.slice E k c) W) ∧ (∀ w B xs, Rd w B size A n xs → Rd w B size E k (xs.take (k * size))) ∧ ∀ w B L, Strs w B A n L → Strs w B E k (L.take k) := by
  subst hz hsz
  have hE : (if c = 0 then A else A.map (·.add (0 * i.size))) = A := by
    split
    · rfl
    · cases A with
      | none => rfl
      | some a => simp [Addr.add]
  refine ⟨A, fun W => ?_, fun w B xs h => ?_, fun w B L h => ?_⟩
  · have h1 := run_slice_h (P := P) W t A n c (by rw [ht, elem_of_underlying ht]) .i64 (k : Int) (by omega) (by omega)
    rw [h1, elem_of_underlying ht, size_run hi]
    simp only [Result.andThen, sliced, hE, Int.toNat_natCast, Nat.sub_zero]
  · refine ⟨by rw [List.length_take, h.1]; exact Nat.min_eq_left (Nat.mul_le_mul_right _ hk), fun h0 => ?_⟩
    obtain ⟨g, off, e1, hb, hc⟩ := h.2 (by omega)
    refine ⟨g, off, e1, hb, fun j u hu => hc j u ?_⟩
    rw [List.getElem?_take] at hu
    split at hu
    · exact hu
    · cases hu
  · refine ⟨by rw [List.length_take, h.1]; exact Nat.min_eq_left hk, fun h0 => ?_⟩
    obtain ⟨g, off, e1, hb, hc⟩ := h.2 (by omega)
    refine ⟨g, off, e1, hb, fun j u hu => hc j u ?_⟩
    rw [List.getElem?_take] at hu
    split at hu
    · exact hu
    · cases hu
/-- 'x[k:]'. -/
theorem slice_from {t e : TypeId} {i : TypeInfo} {size : Nat} (ht : P.underlying t = some (.slice e)) (hi : P.info? e = some i) (hsz : i.size = size) (A : Option Addr) (n c k : Nat) (z : Int) (hz : z = (k : Int)) (hk : k ≤ n) (hnc : n ≤ c) :
    ∃ E, (∀ W : World, (Instr.slice t (.slice A n c) (some (.int .i64 z)) none none).run P W = .ok (.slice E (n - k) (c - k)) W) ∧ (∀ w B xs, Rd w B size A n xs → Rd w B size E (n - k) (xs.drop (k * size))) ∧ ∀ w B L, i.size = 1 → Strs w B A n L → Strs w B E (n - k) (L.drop k) := by
  subst hz hsz
  refine ⟨if c = k then A else A.map (·.add (k * i.size)), fun W => ?_, fun w B xs h => ?_, fun w B L h1 h => ?_⟩
  · have h1 := run_slice_l (P := P) W t A n c (by rw [ht, elem_of_underlying ht]) .i64 (k : Int) (by omega) (by omega)
    rw [h1, elem_of_underlying ht, size_run hi]
    simp only [Result.andThen, sliced, Int.toNat_natCast]
  · refine ⟨by rw [List.length_drop, h.1, Nat.sub_mul], fun h0 => ?_⟩
    obtain ⟨g, off, rfl, hb, hc⟩ := h.2 (by omega)
    rw [if_neg (by omega)]
    refine ⟨g, off + k * i.size, by rw [Option.map_some, add_at], hb, fun j u hu => ?_⟩
    rw [Nat.add_assoc]
    exact hc _ u (by rw [← hu, List.getElem?_drop])
  · refine ⟨by rw [List.length_drop, h.1], fun h0 => ?_⟩
    obtain ⟨g, off, rfl, hb, hc⟩ := h.2 (by omega)
    rw [if_neg (by omega)]
    refine ⟨g, off + k, by rw [Option.map_some, add_at, h1, Nat.mul_one], hb, fun j u hu => ?_⟩
    rw [Nat.add_assoc]
    exact hc _ u (by rw [← hu, List.getElem?_drop])
end
end Go.Proofs.Ytimpmlmkhjeajaa

/- A region that draws its order, whose operations read and whose callees make memory (and hand back plain values): one walk serves every order. No program. -/
namespace Go.Proofs.Ytimpmlmkhjeajaa
open Go.RowKit

/-- A world in which all below block B is as in w. -/
structure Later (B : Nat) (w : World) where
  it : World
  below : Below B w it
instance (B : Nat) (w : World) : Nonempty (Later B w) := ⟨⟨w, Below.refl _ _⟩⟩
theorem Later.cell {B : Nat} {w : World} (z : Later B w) {b o : Nat} (h : b < B) : z.it.cell? ⟨b, o, none⟩ = w.cell? ⟨b, o, none⟩ := z.below.cell (p := ⟨b, o, none⟩) h
theorem wp_region_later {P : Program} {B : Nat} {id : Nat} {Q : Exit → Act → World → Prop} {a : Act} {w : World} {l : List Oper} (hm : P.follows .mixedOrders = true) (hB : Region.lexB .any l.toArray = true)
    (h : wpQuiet P l.toArray (fun w' => ∃ z : Later B w, w' = z.it) (fun a' => ∀ w', (∃ z : Later B w, w' = z.it) → Q .normal a' w') l a) : (Code.region id l.toArray true).wp P Q a w :=
  wp_region_quiet (C := fun w' => ∃ z : Later B w, w' = z.it) hm hB ⟨⟨_, below_drewN' B w 1⟩, rfl⟩ (by simpa using h)
/-- A callee's contract. -/
theorem Later.call {P : Program} {f : FuncId} {args : Array Value} {B : Nat} {w : World} {z : Later B w} {v : Value}
    (h : Calls P f args z.it fun e w' => e = .returned v ∧ Below B z.it w') : Calls P f args z.it fun e w'' => e = .returned v ∧ ∃ z' : Later B w, w'' = z'.it :=
  h.mono fun _ w' ⟨he, hb⟩ => ⟨he, ⟨w', z.below.trans hb⟩, rfl⟩
theorem Later.same {P : Program} {f : FuncId} {args : Array Value} {B : Nat} {w : World} {z : Later B w} {v : Value}
    (h : Calls P f args z.it fun e w' => e = .returned v ∧ z.it = w') : Calls P f args z.it fun e w'' => e = .returned v ∧ ∃ z' : Later B w, w'' = z'.it :=
  h.mono fun _ _ ⟨he, hb⟩ => ⟨he, z, hb.symm⟩
theorem Later.drew {P : Program} {f : FuncId} {args : Array Value} {B : Nat} {w : World} {z : Later B w} {v : Value}
    (h : Calls P f args z.it fun e w' => e = .returned v ∧ ∃ q, w' = z.it.drewN q) : Calls P f args z.it fun e w'' => e = .returned v ∧ ∃ z' : Later B w, w'' = z'.it :=
  h.mono fun _ w' ⟨he, q, hb⟩ => ⟨he, ⟨w', z.below.trans (hb ▸ below_drewN' B z.it q)⟩, rfl⟩
end Go.Proofs.Ytimpmlmkhjeajaa

/- (*l6Rd).pick gives a number from 0 to m - 1 and moves the reader's place on. -/
namespace Go.Proofs.Ytimpmlmkhjeajaa
open Go.RowKit

theorem wr_small (d : Nat) (h : d ≤ 1000000) : IntKind.i64.wrap (d : Int) = d := IntWalk.i64_in _ (by omega)
theorem w64_small (d : Nat) (h : d ≤ 1000000) : wrap64 (d : Int) = d := IntWalk.wrap64_in _ (by omega)
theorem quo_facts (p n : Nat) (hp : p ≤ 1000000) : ∃ d : Nat, IntKind.i64.wrap ((p : Int).tdiv n) = d ∧ IntKind.i64.wrap ((p : Int) / n) = d ∧ wrap64 ((p : Int) / n) = d ∧ d ≤ 1000000 := by
  have e : (p : Int).tdiv n = ((p / n : Nat) : Int) := by rw [Int.natCast_ediv]; exact Int.tdiv_eq_ediv_of_nonneg (by omega)
  have e2 : (p : Int) / n = ((p / n : Nat) : Int) := by rw [Int.natCast_ediv]
  have hle := Nat.div_le_self p n
  have hl : p / n ≤ 1000000 := by omega
  exact ⟨p / n, by rw [e, wr_small _ hl], by rw [e2, wr_small _ hl], by rw [e2, w64_small _ hl], hl⟩
theorem wsum (a b : Nat) (h : a + b ≤ 1000000000) : ∃ c : Nat, IntKind.i64.wrap ((a : Int) + b) = c ∧ c = a + b := ⟨a + b, by rw [IntWalk.i64_in _ (by omega)]; omega, rfl⟩
theorem pick_sums (p n u v : Nat) (hp : p ≤ 1000000) (hu : u < 256) (hv : v < 256) : ∃ b1 b2 b3 b4 b5 d b6 b7 : Nat,
    IntKind.i64.wrap ((v : Int) * 131) = b1 ∧ IntKind.i64.wrap ((u : Int) * 1117) = b2 ∧ IntKind.i64.wrap ((b1 : Int) + b2) = b3 ∧ IntKind.i64.wrap ((p : Int) * 29) = b4 ∧
    IntKind.i64.wrap ((b3 : Int) + b4) = b5 ∧ IntKind.i64.wrap ((p : Int).tdiv n) = d ∧ IntKind.i64.wrap ((p : Int) / n) = d ∧ wrap64 ((p : Int) / n) = d ∧ IntKind.i64.wrap ((d : Int) * 53) = b6 ∧ IntKind.i64.wrap ((b5 : Int) + b6) = b7 ∧ b7 ≤ 100000000 := by
  obtain ⟨b1, e1, l1⟩ : ∃ a : Nat, IntKind.i64.wrap ((v : Int) * 131) = a ∧ a ≤ 33405 := ⟨v * 131, by rw [IntWalk.i64_in _ (by omega)]; omega, by omega⟩
  obtain ⟨b2, e2, l2⟩ : ∃ a : Nat, IntKind.i64.wrap ((u : Int) * 1117) = a ∧ a ≤ 284835 := ⟨u * 1117, by rw [IntWalk.i64_in _ (by omega)]; omega, by omega⟩
  obtain ⟨b4, e4, l4⟩ : ∃ a : Nat, IntKind.i64.wrap ((p : Int) * 29) = a ∧ a ≤ 29000000 := ⟨p * 29, by rw [IntWalk.i64_in _ (by omega)]; omega, by omega⟩
  obtain ⟨b3, e3, l3⟩ := wsum b1 b2 (by omega)
  obtain ⟨b5, e5, l5⟩ := wsum b3 b4 (by omega)
  suffices H : ∃ d b6 b7 : Nat, IntKind.i64.wrap ((p : Int).tdiv n) = d ∧ IntKind.i64.wrap ((p : Int) / n) = d ∧ wrap64 ((p : Int) / n) = d ∧ IntKind.i64.wrap ((d : Int) * 53) = b6 ∧ IntKind.i64.wrap ((b5 : Int) + b6) = b7 ∧ b7 ≤ 100000000 from by
    obtain ⟨d, b6, b7, h⟩ := H
    exact ⟨b1, b2, b3, b4, b5, d, b6, b7, e1, e2, e3, e4, e5, h⟩
  clear e1 e2 e3 e4 e5
  obtain ⟨d, h1, h2, h3, h4⟩ := quo_facts p n hp
  suffices H : ∃ b6 b7 : Nat, IntKind.i64.wrap ((d : Int) * 53) = b6 ∧ IntKind.i64.wrap ((b5 : Int) + b6) = b7 ∧ b7 ≤ 100000000 from by
    obtain ⟨b6, b7, h⟩ := H
    exact ⟨d, b6, b7, h1, h2, h3, h⟩
  clear h1 h2 h3
  obtain ⟨b6, e6, l6⟩ : ∃ a : Nat, IntKind.i64.wrap ((d : Int) * 53) = a ∧ a ≤ 53000000 := ⟨d * 53, by rw [IntWalk.i64_in _ (by omega)]; omega, by omega⟩
  obtain ⟨b7, e7, l7⟩ := wsum b5 b6 (by omega)
  exact ⟨b6, b7, e6, e7, by omega⟩
theorem xor_rem (b m : Nat) (hb : b ≤ 100000000) (hm : 1 ≤ m) : In m (.returned (.int .i64 ((bits BinOp.xor .i64 (b : Int) ((b : Int) / 64)).tmod m))) := by
  have e : ((b : Int) / 64) = ((b / 64 : Nat) : Int) := by rw [Int.natCast_ediv]; rfl
  rw [e, i64_xor_nat _ _ (by omega) (by omega)]
  refine ⟨(b ^^^ (b / 64)) % m, Nat.mod_lt _ (by omega), ?_⟩
  rw [Int.natCast_emod, Int.tmod_eq_emod_of_nonneg (by omega)]

set_option maxHeartbeats 1000000 in
set_option maxRecDepth 100000 in
theorem pick_any (g p m : Nat) (w : World) (hr : Rdr 125 w g p) (hp : p ≤ 1000000) (hm : 1 ≤ m) (hm2 : m ≤ 1000000) :
    Calls Try.prog 59 #[.pointer (some ⟨g, 0, none⟩), .int .i64 m] w fun e w' => In m e ∧ Rdr 125 w' g (p + 1) ∧ But w.heap.size g w w' := by
  obtain ⟨A, n, c, hn, hnc, hcode, hb⟩ := hr
  have c0 : w.cell? ⟨g, 0, none⟩ = some (.slice A n c) := hb.cell 0
  have c1 : w.cell? ⟨g, 1, none⟩ = some (.int .i64 p) := hb.cell 1
  have f1 : w.frozen? ⟨g, 1, none⟩ = false := hb.frozen 1
  have hsz := hb.lt
  by_cases h0 : n = 0
  · subst h0
    go_enter Try.func59, Try.ntmps59
    go_wp2_with fail
    go_ret
    refine ⟨⟨0, by omega, rfl⟩, ?_, But.set_ _ _ _⟩
    exact ⟨A, 0, c, by omega, by omega, fun h => absurd h (by omega), by simpa using hb.set_ 1 (.int .i64 (p + 1))⟩
  · have hne : ((n : Int) == 0) = false := by simp; omega
    obtain ⟨cb, off, rfl, hcb, hcell⟩ := hcode (by omega)
    have hkeep : ∀ (u : Value), Rdr 125 (w.setCell ⟨g, 1, none⟩ (.int .i64 (p + 1))) g (p + 1) := fun _ => by
      refine ⟨some ⟨cb, off, none⟩, n, c, hn, hnc, fun _ => ⟨cb, off, rfl, hcb, fun j hj => ?_⟩, by simpa using hb.set_ 1 (.int .i64 (p + 1))⟩
      obtain ⟨v, hv, hx⟩ := hcell j hj
      exact ⟨v, hv, by rw [World.cell?_setCell_other _ _ _ _ (fun e => by injection e; omega)]; exact hx⟩
    by_cases hk : p < n
    · obtain ⟨v, hv, hx⟩ := hcell p hk
      have hx' : (w.setCell ⟨g, 1, none⟩ (.int .i64 (p + 1))).cell? ⟨cb, off + p, none⟩ = some (.int .u8 v) := by
        rw [World.cell?_setCell_other _ _ _ _ (fun e => by injection e; omega)]; exact hx
      go_enter Try.func59, Try.ntmps59
      go_wp2_with fail
      go_ret
      exact ⟨⟨v % m, Nat.mod_lt _ (by omega), by simp⟩, hkeep undef, But.set_ _ _ _⟩
    · obtain ⟨i, hi, hin⟩ : ∃ i : Nat, (p : Int).tmod n = i ∧ i < n := ⟨p % n, by rw [Int.natCast_emod]; exact Int.tmod_eq_emod_of_nonneg (by omega), Nat.mod_lt _ (by omega)⟩
      obtain ⟨v, hv, hx⟩ := hcell i hin
      have hx' : (w.setCell ⟨g, 1, none⟩ (.int .i64 (p + 1))).cell? ⟨cb, off + i, none⟩ = some (.int .u8 v) := by
        rw [World.cell?_setCell_other _ _ _ _ (fun e => by injection e; omega)]; exact hx
      obtain ⟨a1, ha1, hb1⟩ : ∃ a : Nat, IntKind.i64.wrap ((p : Int) * 7) = a ∧ a ≤ 7000000 := ⟨p * 7, by rw [IntWalk.i64_in _ (by omega)]; omega, by omega⟩
      obtain ⟨a2, ha2, hb2⟩ : ∃ a : Nat, IntKind.i64.wrap ((a1 : Int) + 3) = a ∧ a ≤ 7000003 := ⟨a1 + 3, by rw [IntWalk.i64_in _ (by omega)]; omega, by omega⟩
      obtain ⟨j, hj, hjn⟩ : ∃ j : Nat, (a2 : Int).tmod n = j ∧ j < n := ⟨a2 % n, by rw [Int.natCast_emod]; exact Int.tmod_eq_emod_of_nonneg (by omega), Nat.mod_lt _ (by omega)⟩
      obtain ⟨u, hu, hy⟩ := hcell j hjn
      have hy' : (w.setCell ⟨g, 1, none⟩ (.int .i64 (p + 1))).cell? ⟨cb, off + j, none⟩ = some (.int .u8 u) := by
        rw [World.cell?_setCell_other _ _ _ _ (fun e => by injection e; omega)]; exact hy
      obtain ⟨b1, b2, b3, b4, b5, d, b6, b7, hb1', hb2', hb3', hb4', hb5', hd, hd', hd2, hb6', hb7', hc7⟩ := pick_sums p n u v hp hu hv
      go_enter Try.func59, Try.ntmps59
      go_wp2_with fail
      go_quiet (fail)
      go_wp2_with fail
      go_ret
      refine ⟨?_, (hkeep undef).drewN nq, (But.set_ _ _ _).drewN nq⟩
      exact xor_rem b7 m hc7 hm
end Go.Proofs.Ytimpmlmkhjeajaa

/- The reader: l6Open, of, l91Name. -/
namespace Go.Proofs.Ytimpmlmkhjeajaa
open Go.RowKit

set_option maxHeartbeats 1000000 in
theorem open_any (A : Option Addr) (n c : Nat) (w : World) (hc : Code w w.heap.size A n) (hnc : n ≤ c) (hn : n ≤ 1048576) :
    Calls Try.prog 57 #[.slice A n c] w fun e w' => e = .returned (.pointer (some ⟨w.heap.size, 0, none⟩)) ∧ Rdr 125 w' w.heap.size 0 ∧ Below w.heap.size w w' := by
  by_cases h : 2000 < n
  · go_enter Try.func57, Try.ntmps57
    go_wp2
    go_ret
    refine ⟨rfl, ⟨A, 2000, c, by omega, by omega, ?_, Blk.new _ _ _⟩, (Below.refl _ _).alloc (Nat.le_refl _) _⟩
    exact (hc.less (by omega)).below ((Below.refl _ _).alloc (Nat.le_refl _) _)
  · go_enter Try.func57, Try.ntmps57
    go_wp2
    go_ret
    refine ⟨rfl, ⟨A, n, c, by omega, by omega, ?_, Blk.new _ _ _⟩, (Below.refl _ _).alloc (Nat.le_refl _) _⟩
    exact hc.below ((Below.refl _ _).alloc (Nat.le_refl _) _)

set_option maxHeartbeats 1000000 in
theorem of_lit (g p : Nat) (b n c : Nat) (cs : Array Value) (w : World) (hr : Rdr 125 w g p) (hp : p ≤ 1000000) (hb : Blk w b 9 cs) (hne : b ≠ g) (hn : cs.size = n) (h1 : 1 ≤ n) (h2 : n ≤ 1000000) (hs : cs.toList.all shortStr = true) :
    Calls Try.prog 100 #[.pointer (some ⟨g, 0, none⟩), .slice (some ⟨b, 0, none⟩) n c] w fun e w' => Str e ∧ Rdr 125 w' g (p + 1) ∧ But w.heap.size g w w' := by
  have HN := hide hn
  have HS := hide hs
  have HB := hide hb
  clear hn hs hb
  go_enter Try.func100, Try.ntmps100
  go_wp2_with fail
  refine (pick_any g p n _ hr hp h1 h2).mono ?_
  rintro e w1 ⟨⟨k, hk, rfl⟩, hr1, hbut⟩
  have hk' : k < cs.size := by have := HN.out; omega
  obtain ⟨s, hs5, hs⟩ := shortStr_of (List.all_eq_true.1 HS.out cs[k] (by simp))
  have hc1 : w1.cell? ⟨b, k, none⟩ = some (.string s) := by
    rw [(show Blk w1 b _ cs from (hbut.block b HB.out.lt hne).trans HB.out).cell, Array.getElem?_eq_getElem hk', hs]
  clear hs
  go_wp2_with fail
  go_ret
  exact ⟨⟨s, hs5, rfl⟩, hr1, hbut⟩

set_option maxHeartbeats 1000000 in
theorem name_any (g p : Nat) (w : World) (hr : Rdr 125 w g p) (hp : p ≤ 900000) :
    Calls Try.prog 60 #[.pointer (some ⟨g, 0, none⟩)] w fun e w' => Str e ∧ Rdr 125 w' g (p + 2) ∧ But w.heap.size g w w' := by
  go_enter Try.func60, Try.ntmps60
  go_wp2_with fail
  refine (pick_any g p 40 _ hr (by omega) (by omega) (by omega)).mono ?_
  rintro e w1 ⟨⟨k, hk, rfl⟩, hr1, hbut⟩
  have hlt := hr1.lt
  go_wp2_with fail
  all_goals
    with_reducible refine (of_lit g (p + 1) w1.heap.size _ _ _ _ (hr1.alloc _) (by omega) (by exact Blk.new w1 _ _) (by omega) ?hn (by omega) (by omega) ?hs).mono ?_
    case hn => rfl
    case hs => rfl
    rintro e w2 ⟨⟨s, hs, rfl⟩, hr2, hbut2⟩
    go_wp2_with fail
    go_ret
    exact ⟨⟨s, hs, rfl⟩, hr2, hbut.trans ((But.of_below ((Below.refl _ _).alloc hbut.size _)).trans (hbut2.mono (by simp; have := hbut.size; omega)))⟩
end Go.Proofs.Ytimpmlmkhjeajaa

/- Words for memory of the call's own, next to the reader. -/
set_option linter.unusedVariables false
set_option linter.unusedSimpArgs false
namespace Go.Proofs.Ytimpmlmkhjeajaa
open Go.RowKit

theorem But.grown {g : Nat} {a b : World} (h : But a.heap.size g a b) : a.grownBy b (some g) := ⟨h.os, h.tape, h.output, h.size, fun k hk hn => h.block k hk (fun e => hn (by rw [e]))⟩
theorem own_but {base g : Nat} {a b : World} {e : TypeId} {size n : Nat} {v : Value} {xs : List Value} (ho : a.ownsRow base e size v n xs) (h : But a.heap.size g a b) (hg : g < base) : b.ownsRow base e size v n xs :=
  ho.kept h.grown (.inr (fun e => by have := (ho.lt g e).1; omega))
theorem But.own {B g base : Nat} {a w w' : World} {e : TypeId} {size n : Nat} {v : Value} {xs : List Value} (h : But B g a w) (hg : w.grownBy w' v.ownBlock) (ho : w.ownsRow base e size v n xs) (hB : B ≤ base) (hbw : B ≤ w.heap.size) : But B g a w' :=
  h.trans ⟨hg.os, hg.tape, hg.output, hg.size, fun k hk _ => hg.block k (by omega) (fun e => by have := (ho.lt k e.symm).1; omega)⟩
theorem But.alloc {B g : Nat} {a w : World} (h : But B g a w) (hB : B ≤ w.heap.size) (o : Obj) : But B g a (w.alloc o) := h.trans (But.of_below ((Below.refl B w).alloc hB o))
theorem Rdr.own {t : TypeId} {g p base : Nat} {w w' : World} {e : TypeId} {size n : Nat} {v : Value} {xs : List Value} (h : Rdr t w g p) (hg : w.grownBy w' v.ownBlock) (ho : w.ownsRow base e size v n xs) (hgb : g < base) : Rdr t w' g p :=
  h.below (B := g + 1) ⟨hg.os, hg.tape, hg.output, hg.size, fun k hk => hg.block k (by have := h.lt; omega) (fun e => by have := (ho.lt k e.symm).1; omega)⟩ (by omega)
theorem Blk.own {b : Nat} {w w' : World} {t : TypeId} {cs : Array Value} {v : Value} (h : Blk w b t cs) (hg : w.grownBy w' v.ownBlock) (hne : v.ownBlock ≠ some b) : Blk w' b t cs := h.grown hg (fun e => hne e.symm)
theorem Blk.but {b g : Nat} {w w' : World} {t : TypeId} {cs : Array Value} (h : Blk w b t cs) (hb : But w.heap.size g w w') (hne : b ≠ g) : Blk w' b t cs := (hb.block b h.lt hne).trans h

theorem grown_of_below {w w' : World} (h : Below w.heap.size w w') {row : Option Nat} : w.grownBy w' row := ⟨h.os, h.tape, h.output, h.size, fun k hk _ => h.block k hk⟩
theorem own_base {w : World} {base base' : Nat} {e : TypeId} {size n : Nat} {v : Value} {xs : List Value} (h : w.ownsRow base e size v n xs) (hb : base' ≤ base) : w.ownsRow base' e size v n xs :=
  ⟨h.1, by
    rcases h.2 with h | ⟨g, cap, cur, e1, e2, e3⟩
    · exact .inl h
    · exact .inr ⟨g, cap, cur, e1, by omega, e3⟩⟩
/-- Block b holds N short strings. -/
def Lit (w : World) (b N : Nat) : Prop := ∃ cs : Array Value, Blk w b 9 cs ∧ cs.size = N ∧ cs.toList.all shortStr = true
theorem Lit.cell {w : World} {b N k : Nat} (h : Lit w b N) (hk : k < N) : ∃ s : ByteArray, s.size ≤ 5 ∧ w.cell? ⟨b, k, none⟩ = some (.string s) := by
  obtain ⟨cs, hb, hn, ha⟩ := h
  obtain ⟨s, h5, hs⟩ := shortStr_of (List.all_eq_true.1 ha (cs[k]'(by omega)) (by simp))
  exact ⟨s, h5, by rw [hb.cell, Array.getElem?_eq_getElem (by omega), hs]⟩

set_option maxHeartbeats 400000 in
theorem pick_lit (g p m b N : Nat) (z : Int) (cs : Array Value) (w : World) (hz : z = (m : Int)) (hr : Rdr 125 w g p) (hp : p ≤ 1000000) (hm : 1 ≤ m) (hm2 : m ≤ 1000000) (hb : Blk w b 9 cs) (hne : b ≠ g) (hN : cs.size = N) (hs : cs.toList.all shortStr = true) :
    Calls Try.prog 59 #[.pointer (some ⟨g, 0, none⟩), .int .i64 z] w fun e w' => In m e ∧ Rdr 125 w' g (p + 1) ∧ But w.heap.size g w w' ∧ Lit w' b N := by
  subst hz
  exact (pick_any g p m w hr hp hm hm2).mono fun _ _ ⟨h1, h2, h3⟩ => ⟨h1, h2, h3, cs, hb.but h3 hne, hN, hs⟩

/-- A list of at most M short strings. -/
def Short (M : Nat) (L : List ByteArray) : Prop := L.length ≤ M ∧ ∀ s ∈ L, s.size ≤ 5
theorem Short.snoc {M : Nat} {L : List ByteArray} {s : ByteArray} (h : Short M L) (hs : s.size ≤ 5) : Short (M + 1) (L ++ [s]) := by
  refine ⟨by have := h.1; simp; omega, fun t ht => ?_⟩
  rcases List.mem_append.1 ht with h1 | h1
  · exact h.2 t h1
  · rw [List.mem_singleton.1 h1]; exact hs
theorem Short.more {M M' : Nat} {L : List ByteArray} (h : Short M L) (hm : M ≤ M') : Short M' L := ⟨by have := h.1; omega, h.2⟩

theorem own_len' {w : World} {base : Nat} {e : TypeId} {v : Value} {m : Nat} {L : List ByteArray} (h : w.ownsRow base e 1 v m (L.map Value.string)) : L.length = m := by
  have := h.1; rw [List.length_map, Nat.mul_one] at this; exact this
theorem Lit.but {b N g : Nat} {w w' : World} (h : Lit w b N) (hb : But w.heap.size g w w') (hne : b ≠ g) : Lit w' b N := by
  obtain ⟨cs, h1, h2, h3⟩ := h
  exact ⟨cs, h1.but hb hne, h2, h3⟩
theorem own_cap {w : World} {base : Nat} {e : TypeId} {size : Nat} {A : Option Addr} {n c m : Nat} {xs : List Value} (h : w.ownsRow base e size (.slice A n c) m xs) : n ≤ c ∧ c ≤ maxLen := by
  rcases h.2 with ⟨h1, _⟩ | ⟨g, cap, cur, h1, _, _, h2, h3, _⟩
  · injection h1 with _ h1 h2
    subst h1 h2
    exact ⟨Nat.le_refl _, Nat.zero_le _⟩
  · injection h1 with _ h1 h4
    subst h1 h4
    exact ⟨h2, h3⟩

end Go.Proofs.Ytimpmlmkhjeajaa
