/- Words for numbers in memory. -/
import Derived.Test.YtfncmkmhdddmiabOwn
import Derived.Test.YtfncmkmhdddmiabOrd
set_option linter.unusedVariables false
set_option linter.unusedSimpArgs false
namespace Go.Proofs.Ytfncmkmhdddmiab
open Go.RowKit

theorem own_slice {w : World} {base : Nat} {e : TypeId} {size m : Nat} {v : Value} {xs : List Value} (h : w.ownsRow base e size v m xs) : ∃ A c, v = .slice A m c := by
  rcases h.2 with ⟨rfl, rfl⟩ | ⟨g, cap, cur, rfl, _⟩
  · exact ⟨_, _, rfl⟩
  · exact ⟨_, _, rfl⟩
/-- A slice of numbers. -/
def Ints (w : World) (B : Nat) (A : Option Addr) (n : Nat) (L : List Int) : Prop :=
  L.length = n ∧ (0 < n → ∃ g off, A = some ⟨g, off, none⟩ ∧ g < B ∧ ∀ j i, L[j]? = some i → w.cell? ⟨g, off + j, none⟩ = some (.int .i64 i))
section
variable {w w' : World} {B B' n : Nat} {A : Option Addr} {L : List Int}
theorem Ints.keep (h : Ints w B A n L) (hk : ∀ p : Addr, p.block < B → w'.cell? p = w.cell? p) : Ints w' B A n L :=
  ⟨h.1, fun hn => by
    obtain ⟨g, off, e, hb, hc⟩ := h.2 hn
    exact ⟨g, off, e, hb, fun j u hu => (hk ⟨g, off + j, none⟩ hb).trans (hc j u hu)⟩⟩
theorem Ints.more (h : Ints w B A n L) (hB : B ≤ B') : Ints w B' A n L :=
  ⟨h.1, fun hn => by
    obtain ⟨g, off, e, hb, hc⟩ := h.2 hn
    exact ⟨g, off, e, by omega, hc⟩⟩
theorem Ints.below (h : Ints w B A n L) (hb : Below B w w') : Ints w' B A n L := h.keep fun _ hp => hb.cell hp
theorem Ints.drewN (h : Ints w B A n L) (k : Nat) : Ints (w.drewN k) B A n L := h
theorem Ints.on (h : Ints w w.heap.size A n L) (hb : Below w.heap.size w w') : Ints w' w'.heap.size A n L := (h.below hb).more hb.size
theorem Ints.rd (h : Ints w B A n L) : Rd w B 1 A n (L.map (Value.int .i64)) :=
  ⟨by rw [List.length_map, h.1, Nat.mul_one], fun hn => by
    obtain ⟨g, off, e, hb, hc⟩ := h.2 hn
    refine ⟨g, off, e, hb, fun j u hu => ?_⟩
    rw [List.getElem?_map, Option.map_eq_some_iff] at hu
    obtain ⟨s, hs, rfl⟩ := hu
    exact hc j s hs⟩
theorem Ints.of_own {base c : Nat} {e : TypeId} (h : w.ownsRow base e 1 (.slice A n c) n (L.map (Value.int .i64))) : Ints w w.heap.size A n L := by
  have h1 := h.1
  rw [List.length_map, Nat.mul_one] at h1
  refine ⟨h1, fun hn => ?_⟩
  obtain ⟨g, off, e, hb, hc⟩ := (Rd.of_own h).2 hn
  exact ⟨g, off, e, hb, fun j s hs => hc j _ (by rw [List.getElem?_map, hs]; rfl)⟩
theorem one_ints (L : List Int) : ∀ u ∈ L.map (Value.int .i64), u.oneCell' = true := by
  intro u hu
  obtain ⟨s, _, rfl⟩ := List.mem_map.1 hu
  rfl
end
/-- Numbers in memory of the call's own. -/
def OwnI (base : Nat) (w : World) (v : Value) (L : List Int) : Prop := ∃ A n c, v = .slice A n c ∧ w.ownsRow base 3 1 (.slice A n c) n (L.map (Value.int .i64))
def Own1I (w : World) (L : List Int) (e : Ending) (w' : World) : Prop := ∃ v, e = .returned v ∧ OwnI w.heap.size w' v L ∧ Below w.heap.size w w'
theorem OwnI.mk' {base : Nat} {w : World} {v : Value} {m : Nat} {xs : List Value} {L : List Int} (h : w.ownsRow base 3 1 v m xs) (e : xs = L.map (Value.int .i64)) : OwnI base w v L := by
  subst e
  obtain ⟨A, c, rfl⟩ := own_slice h
  exact ⟨_, _, _, rfl, h⟩
theorem own1_ints {w w' : World} {L : List Int} {e : Ending} (h : Own1I w L e w') : ∃ A n c, e = .returned (.slice A n c) ∧ n ≤ c ∧ c ≤ maxLen ∧ Ints w' w'.heap.size A n L ∧ Below w.heap.size w w' := by
  obtain ⟨v, rfl, ⟨A, n, c, rfl, h1⟩, hb⟩ := h
  exact ⟨A, n, c, rfl, (own_cap h1).1, (own_cap h1).2, Ints.of_own h1, hb⟩
theorem Ints.at' {w : World} {B n : Nat} {A : Option Addr} {L : List Int} (h : Ints w B A n L) {j : Nat} {i : Int} (ha : L[j]? = some i) : ∃ g off, A = some ⟨g, off, none⟩ ∧ g < B ∧ w.cell? ⟨g, off + j, none⟩ = some (.int .i64 i) := by
  obtain ⟨g, off, e, hb, hc⟩ := h.2 (by have := (List.getElem?_eq_some_iff.1 ha).1; have := h.1; omega)
  exact ⟨g, off, e, hb, hc j i ha⟩

theorem txt_ne {s t : ByteArray} (h : s ≠ t) : (s.toList == t.toList) = false := by rw [beq_eq_false_iff_ne]; exact fun e => h (toList_inj e)
theorem int_info : (Try.prog.info? 3).map (fun i => (i.zero, i.size, i.bytes)) = some (some (.int .i64 0), 1, 8) := by kernel_rfl
theorem info_parts' {P : Program} {e : TypeId} {z : Value} {size bytes : Nat} (h : (P.info? e).map (fun i => (i.zero, i.size, i.bytes)) = some (some z, size, bytes)) : ∃ i, P.info? e = some i ∧ i.zero = some z ∧ i.size = size ∧ i.bytes = bytes := by
  rw [Option.map_eq_some_iff] at h
  obtain ⟨i, h1, h2⟩ := h
  simp at h2
  exact ⟨i, h1, h2.1, h2.2.1, h2.2.2⟩
theorem rd_two (w : World) (e : TypeId) (x y : Value) : Rd (w.alloc (.cells #[x, y] e)) (w.heap.size + 1) 2 (some ⟨w.heap.size, 0, none⟩) 1 [x, y] :=
  ⟨rfl, fun _ => ⟨_, 0, rfl, by omega, fun j u hu => by
    rw [(Blk.new w e #[x, y]).cell]
    rcases j with _ | _ | j
    · simpa using hu
    · simpa using hu
    · simp at hu⟩⟩
end Go.Proofs.Ytfncmkmhdddmiab
