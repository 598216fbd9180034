/- Words for memory and for the reader of a code: no program. -/
import Derived.Test.YtmofnmklodmkmaaGreatDoorMath
import Derived.Below
import Derived.Laws.OwnMore
import Derived.Deep.AppendLies
import Derived.Deep.Draws
import Derived.Laws.Rows
import Derived.Laws.BitsAllLaws
import Derived.Deep.QuietTactic
namespace Go.Proofs.YtmofnmklodmkmaaGreatDoor
open Go.RowKit

theorem below_drewN {B : Nat} {a w : World} (h : Below B a w) (n : Nat) : Below B a (w.drewN n) := ⟨h.os, h.tape, h.output, h.size, h.block⟩
theorem below_drewN' (B : Nat) (w : World) (n : Nat) : Below B w (w.drewN n) := below_drewN (Below.refl _ _) n
theorem cell_none {w : World} {a : Addr} {v : Value} (h : w.cell? a = some v) : a.spot = none := World.cell?_spot h

/-- Block g is just the cells cs. -/
def Blk (w : World) (g : Nat) (t : TypeId) (cs : Array Value) : Prop := w.heap[g]? = some (.cells cs t (0, 0))
section
variable {w w' : World} {g : Nat} {t : TypeId} {cs : Array Value}
theorem Blk.lt (h : Blk w g t cs) : g < w.heap.size := by
  rcases Nat.lt_or_ge g w.heap.size with hlt | hge
  · exact hlt
  · unfold Blk at h; rw [Array.getElem?_eq_none hge] at h; cases h
theorem Blk.cell (h : Blk w g t cs) (i : Nat) : w.cell? ⟨g, i, none⟩ = cs[i]? := cell_of_row w g i cs t (0, 0) h
theorem Blk.frozen (h : Blk w g t cs) (i : Nat) : w.frozen? ⟨g, i, none⟩ = false := by
  unfold Blk at h
  simp [World.frozen?, h]
theorem Blk.new (w : World) (t : TypeId) (cs : Array Value) : Blk (w.alloc (.cells cs t)) w.heap.size t cs := heap_alloc_new w _
theorem Blk.drewN (h : Blk w g t cs) (n : Nat) : Blk (w.drewN n) g t cs := h
theorem Blk.alloc (h : Blk w g t cs) (o : Obj) : Blk (w.alloc o) g t cs := (Below.heap_alloc w o g h.lt).trans h
theorem Blk.set_ (h : Blk w g t cs) (i : Nat) (u : Value) : Blk (w.setCell ⟨g, i, none⟩ u) g t (cs.setIfInBounds i u) := by
  unfold Blk at h ⊢
  simp [World.setCell, Array.getElem?_modify, h]
theorem Blk.far (h : Blk w g t cs) {p : Addr} (hp : g ≠ p.block) (u : Value) : Blk (w.setCell p u) g t cs := (Below.heap_setCell w p u g hp).trans h
theorem Blk.below {B : Nat} (h : Blk w g t cs) (hb : Below B w w') (hg : g < B) : Blk w' g t cs := (hb.block g hg).trans h
theorem Blk.grown {row : Option Nat} (h : Blk w g t cs) (hb : w.grownBy w' row) (hg : some g ≠ row) : Blk w' g t cs := (hb.block g h.lt hg).trans h
end

/-- Below block B all is as it was but for block g (which lies below B or not). -/
structure But (B g : Nat) (w w' : World) : Prop where
  os : w'.os = w.os
  tape : w'.tape = w.tape
  output : w'.output = w.output
  size : w.heap.size ≤ w'.heap.size
  block : ∀ k, k < B → k ≠ g → w'.heap[k]? = w.heap[k]?
theorem But.refl (B g : Nat) (w : World) : But B g w w := ⟨rfl, rfl, rfl, Nat.le_refl _, fun _ _ _ => rfl⟩
theorem But.trans {B g : Nat} {a b c : World} (h : But B g a b) (k : But B g b c) : But B g a c :=
  ⟨k.os.trans h.os, k.tape.trans h.tape, k.output.trans h.output, Nat.le_trans h.size k.size, fun i hi hn => (k.block i hi hn).trans (h.block i hi hn)⟩
theorem But.of_below {B g : Nat} {a b : World} (h : Below B a b) : But B g a b := ⟨h.os, h.tape, h.output, h.size, fun i hi _ => h.block i hi⟩
theorem But.mono {B B' g : Nat} {a b : World} (h : But B g a b) (hB : B' ≤ B) : But B' g a b := ⟨h.os, h.tape, h.output, h.size, fun i hi hn => h.block i (by omega) hn⟩
theorem But.below {B g : Nat} {a b : World} (h : But B g a b) : Below (min B g) a b := ⟨h.os, h.tape, h.output, h.size, fun i hi => h.block i (by omega) (by omega)⟩
theorem But.set_ {B g : Nat} (w : World) (i : Nat) (u : Value) : But B g w (w.setCell ⟨g, i, none⟩ u) :=
  ⟨rfl, rfl, rfl, by simp [World.setCell], fun k _ hn => Below.heap_setCell _ _ _ _ hn⟩
theorem But.drewN {B g : Nat} {a b : World} (h : But B g a b) (n : Nat) : But B g a (b.drewN n) := ⟨h.os, h.tape, h.output, h.size, h.block⟩

/-- A slice of bytes that came in, as far as it is read. -/
def Code (w : World) (B : Nat) (A : Option Addr) (n : Nat) : Prop :=
  0 < n → ∃ cb off, A = some ⟨cb, off, none⟩ ∧ cb < B ∧ ∀ j, j < n → ∃ v : Nat, v < 256 ∧ w.cell? ⟨cb, off + j, none⟩ = some (.int .u8 v)
theorem Code.less {w : World} {B n m : Nat} {A : Option Addr} (h : Code w B A n) (hm : m ≤ n) : Code w B A m := fun h0 => by
  obtain ⟨cb, off, e, hb, hc⟩ := h (by omega)
  exact ⟨cb, off, e, hb, fun j hj => hc j (by omega)⟩
theorem Code.keep {w w' : World} {B n : Nat} {A : Option Addr} (h : Code w B A n) (hk : ∀ p : Addr, p.block < B → w'.cell? p = w.cell? p) : Code w' B A n := fun h0 => by
  obtain ⟨cb, off, e, hb, hc⟩ := h h0
  refine ⟨cb, off, e, hb, fun j hj => ?_⟩
  obtain ⟨v, hv, hx⟩ := hc j hj
  exact ⟨v, hv, (hk ⟨cb, off + j, none⟩ hb).trans hx⟩
theorem Code.below {w w' : World} {B n : Nat} {A : Option Addr} (h : Code w B A n) (hb : Below B w w') : Code w' B A n := h.keep fun _ hp => hb.cell hp

theorem Code.of_ints {w : World} {x : Addr} {len cap : Nat} {zs : List Int} (hl : len ≤ cap) (hz : zs.length = cap) (hcell : ∀ i, i < zs.length → w.cell? (x.add i) = some (.int .u8 (zs.getD i 0)))
    (hwz : ∀ n ∈ zs, (Lit.int .u8 n).wf = true) : Code w w.heap.size (some x) len := by
  intro h0
  obtain ⟨b, off, spot⟩ := x
  have h := hcell 0 (by omega)
  have hspot : spot = none := by simpa [Addr.add] using World.cell?_spot h
  subst hspot
  refine ⟨b, off, rfl, ?_, fun j hj => ?_⟩
  · have := World.block_lt_of_cell? w _ h
    simpa [Addr.add] using this
  · have hj' : j < zs.length := by omega
    have hc := hcell j hj'
    have e2 : (⟨b, off, none⟩ : Addr).add j = ⟨b, off + j, none⟩ := by unfold Addr.add; split <;> simp_all
    rw [e2] at hc
    have hg : zs.getD j 0 = zs[j] := by simp [List.getD, hj']
    have hw := hwz zs[j] (List.getElem_mem hj')
    rw [hg] at hc
    simp [Lit.wf, IntKind.min, IntKind.max, IntKind.signed, IntKind.bits] at hw
    refine ⟨zs[j].toNat, by omega, ?_⟩
    rw [Int.toNat_of_nonneg hw.1]
    exact hc

/-- The reader: block g holds a short code and the place, at most M. -/
def Rdr (t : TypeId) (w : World) (g p : Nat) : Prop :=
  ∃ A n c, n ≤ 2000 ∧ n ≤ c ∧ Code w g A n ∧ Blk w g t #[.slice A n c, .int .i64 p]
section
variable {t : TypeId} {w w' : World} {g p : Nat}
theorem Rdr.lt (h : Rdr t w g p) : g < w.heap.size := by obtain ⟨_, _, _, _, _, _, hb⟩ := h; exact hb.lt
theorem Rdr.below {B : Nat} (h : Rdr t w g p) (hb : Below B w w') (hg : g < B) : Rdr t w' g p := by
  obtain ⟨A, n, c, h1, h2, h3, h4⟩ := h
  exact ⟨A, n, c, h1, h2, h3.below (hb.mono (by omega)), h4.below hb hg⟩
theorem Rdr.drewN (h : Rdr t w g p) (n : Nat) : Rdr t (w.drewN n) g p := h.below (below_drewN' (g + 1) w n) (by omega)
theorem Rdr.alloc (h : Rdr t w g p) (o : Obj) : Rdr t (w.alloc o) g p := h.below ((Below.refl w.heap.size w).alloc (Nat.le_refl _) o) h.lt
end

theorem ofInt_i64 (a : Nat) (ha : a < 9223372036854775808) : (BitVec.ofInt 64 (a : Int)).toNat = a := by
  rw [BitVec.ofInt_natCast, BitVec.toNat_ofNat]; exact Nat.mod_eq_of_lt (by omega)
theorem i64_xor_nat (a b : Nat) (ha : a < 9223372036854775808) (hb : b < 9223372036854775808) : bits .xor .i64 (a : Int) (b : Int) = ((a ^^^ b : Nat) : Int) := by
  have hx : a ^^^ b < 2 ^ 63 := Nat.xor_lt_two_pow (by omega) (by omega)
  show IntKind.i64.wrap ((BitVec.ofInt 64 (a : Int) ^^^ BitVec.ofInt 64 (b : Int)).toNat : Int) = _
  rw [BitVec.toNat_xor, ofInt_i64 a ha, ofInt_i64 b hb, IntKind.wrap_i64]
  omega
/-- A number, put behind a name: from 0 to n - 1. -/
def In (n : Nat) (e : Ending) : Prop := ∃ k : Nat, k < n ∧ e = .returned (.int .i64 k)

/-! A callee that only reads, inside a region that draws. -/
theorem quiet_add {P : Program} {f : FuncId} {args : Array Value} {w : World} {a n : Nat} {v : Value}
    (h : Calls P f args (w.drewN (a + n)) fun e w' => e = .returned v ∧ ∃ m, w' = (w.drewN (a + n)).drewN m) :
    Calls P f args (w.drewN (a + n)) fun e w'' => e = .returned v ∧ ∃ m, w'' = w.drewN (a + m) :=
  h.mono fun _ _ ⟨he, m, hm⟩ => ⟨he, n + m, by rw [hm, World.drewN_drewN, Nat.add_assoc]⟩
theorem quiet_add_left {P : Program} {f : FuncId} {args : Array Value} {w : World} {a n : Nat} {v : Value}
    (h : Calls P f args (w.drewN (a + n)) fun e w' => e = .returned v ∧ w.drewN (a + n) = w') :
    Calls P f args (w.drewN (a + n)) fun e w'' => e = .returned v ∧ ∃ m, w'' = w.drewN (a + m) :=
  h.mono fun _ _ ⟨he, hm⟩ => ⟨he, n, hm.symm⟩
theorem quiet_left {P : Program} {f : FuncId} {args : Array Value} {w : World} {n : Nat} {v : Value}
    (h : Calls P f args (w.drewN n) fun e w' => e = .returned v ∧ w.drewN n = w') : Calls P f args (w.drewN n) fun e w'' => e = .returned v ∧ ∃ m, w'' = w.drewN m :=
  h.mono fun _ _ ⟨he, hm⟩ => ⟨he, n, hm.symm⟩

/-- A slice value that reads as the cells xs, below block B. -/
def Rd (w : World) (B size : Nat) (A : Option Addr) (n : Nat) (xs : List Value) : Prop :=
  xs.length = n * size ∧ (0 < n → ∃ g off, A = some ⟨g, off, none⟩ ∧ g < B ∧ ∀ j u, xs[j]? = some u → w.cell? ⟨g, off + j, none⟩ = some u)
section
variable {w w' : World} {B B' size n : Nat} {A : Option Addr} {xs : List Value}
theorem Rd.nil : Rd w B size A 0 [] := ⟨by simp, fun h => absurd h (by omega)⟩
theorem Rd.keep (h : Rd w B size A n xs) (hk : ∀ p : Addr, p.block < B → w'.cell? p = w.cell? p) : Rd w' B size A n xs :=
  ⟨h.1, fun hn => by
    obtain ⟨g, off, e, hb, hc⟩ := h.2 hn
    exact ⟨g, off, e, hb, fun j u hu => (hk ⟨g, off + j, none⟩ hb).trans (hc j u hu)⟩⟩
theorem Rd.more (h : Rd w B size A n xs) (hB : B ≤ B') : Rd w B' size A n xs :=
  ⟨h.1, fun hn => by
    obtain ⟨g, off, e, hb, hc⟩ := h.2 hn
    exact ⟨g, off, e, by omega, hc⟩⟩
theorem Rd.below (h : Rd w B size A n xs) (hb : Below B w w') : Rd w' B size A n xs := h.keep fun _ hp => hb.cell hp
theorem Rd.drewN (h : Rd w B size A n xs) (k : Nat) : Rd (w.drewN k) B size A n xs := h
theorem Rd.alloc (h : Rd w B size A n xs) (hB : B ≤ w.heap.size) (o : Obj) : Rd (w.alloc o) B size A n xs := h.below ((Below.refl B w).alloc hB o)
theorem Rd.of_own {base : Nat} {e : TypeId} {c : Nat} (h : w.ownsRow base e size (.slice A n c) n xs) : Rd w w.heap.size size A n xs := by
  refine ⟨h.1, fun hn => ?_⟩
  obtain ⟨g, cap, hv, _, hlt⟩ := h.form hn
  have hA : A = some ⟨g, 0, none⟩ := by injection hv
  subst hA
  refine ⟨g, 0, rfl, hlt, fun j u hu => ?_⟩
  have := h.cells (g := g) rfl j u hu
  rw [Nat.zero_add]
  have e2 : (⟨g, 0, none⟩ : Addr).add j = ⟨g, j, none⟩ := by unfold Addr.add; split <;> simp_all
  rwa [e2] at this
end

/-- A slice of strings. -/
def Strs (w : World) (B : Nat) (A : Option Addr) (n : Nat) (L : List ByteArray) : Prop :=
  L.length = n ∧ (0 < n → ∃ g off, A = some ⟨g, off, none⟩ ∧ g < B ∧ ∀ j s, L[j]? = some s → w.cell? ⟨g, off + j, none⟩ = some (.string s))
section
variable {w w' : World} {B B' n : Nat} {A : Option Addr} {L : List ByteArray}
theorem Strs.keep (h : Strs w B A n L) (hk : ∀ p : Addr, p.block < B → w'.cell? p = w.cell? p) : Strs w' B A n L :=
  ⟨h.1, fun hn => by
    obtain ⟨g, off, e, hb, hc⟩ := h.2 hn
    exact ⟨g, off, e, hb, fun j u hu => (hk ⟨g, off + j, none⟩ hb).trans (hc j u hu)⟩⟩
theorem Strs.more (h : Strs w B A n L) (hB : B ≤ B') : Strs w B' A n L :=
  ⟨h.1, fun hn => by
    obtain ⟨g, off, e, hb, hc⟩ := h.2 hn
    exact ⟨g, off, e, by omega, hc⟩⟩
theorem Strs.below (h : Strs w B A n L) (hb : Below B w w') : Strs w' B A n L := h.keep fun _ hp => hb.cell hp
theorem Strs.drewN (h : Strs w B A n L) (k : Nat) : Strs (w.drewN k) B A n L := h
theorem Strs.alloc (h : Strs w B A n L) (hB : B ≤ w.heap.size) (o : Obj) : Strs (w.alloc o) B A n L := h.below ((Below.refl B w).alloc hB o)
theorem Strs.of_own {base : Nat} {e : TypeId} {c : Nat} (h : w.ownsRow base e 1 (.slice A n c) n (L.map Value.string)) : Strs w w.heap.size A n L := by
  have h1 := h.1
  rw [List.length_map, Nat.mul_one] at h1
  refine ⟨h1, fun hn => ?_⟩
  obtain ⟨g, off, e, hb, hc⟩ := (Rd.of_own h).2 hn
  exact ⟨g, off, e, hb, fun j s hs => hc j _ (by rw [List.getElem?_map, hs]; rfl)⟩
theorem Strs.lit (w : World) (e : TypeId) (L : List ByteArray) (n : Nat) (hn : L.length = n) : Strs (w.alloc (.cells (L.map Value.string).toArray e)) (w.heap.size + 1) (some ⟨w.heap.size, 0, none⟩) n L :=
  ⟨hn, fun _ => ⟨_, 0, rfl, by omega, fun j s hs => by
    rw [(Blk.new w e _).cell]
    simp [hs]⟩⟩
end
/-- A short string is returned. -/
def Str (e : Ending) : Prop := ∃ s : ByteArray, s.size ≤ 5 ∧ e = .returned (.string s)
def shortStr : Value → Bool
  | .string s => decide (s.size ≤ 5)
  | _ => false
theorem shortStr_of {v : Value} (h : shortStr v = true) : ∃ s : ByteArray, s.size ≤ 5 ∧ v = .string s := by
  cases v <;> simp [shortStr] at h
  exact ⟨_, h, rfl⟩
/-- One of the strings of L is returned. -/
def StrIn (L : List ByteArray) (e : Ending) : Prop := ∃ s : ByteArray, s ∈ L ∧ e = .returned (.string s)
end Go.Proofs.YtmofnmklodmkmaaGreatDoor
