/- Records and their lines: plain mathematics. -/
import Derived.Test.YtmofnmklodmkmaaGreatDoorBxi
set_option linter.unusedVariables false
set_option linter.unusedSimpArgs false
namespace Go.Proofs.YtmofnmklodmkmaaGreatDoor
open Go.RowKit

/-- A record: its kind, a number, how many, two names. -/
abbrev Rec := Int × Int × Int × ByteArray × ByteArray
abbrev Txt := List UInt8
def re0 : Rec := (0, 0, 0, ⟨#[]⟩, ⟨#[]⟩)
/-- A text is empty. -/
def emB (s : ByteArray) : Bool := s.data.toList.isEmpty
theorem emB_iff {s : ByteArray} : emB s = true ↔ s = ⟨#[]⟩ := by
  unfold emB
  rw [List.isEmpty_iff]
  constructor
  · intro h; cases s; rename_i a; exact congrArg ByteArray.mk (Array.toList_inj.1 h)
  · rintro rfl; rfl
def inT (i : Int) : Bool := decide (1 ≤ i) && decide (i ≤ 10)
def inP (i : Int) : Bool := decide (1 ≤ i) && decide (i ≤ 30)
theorem inT_iff {i : Int} : inT i = true ↔ 1 ≤ i ∧ i ≤ 10 := by unfold inT; simp
theorem inP_iff {i : Int} : inP i = true ↔ 1 ≤ i ∧ i ≤ 30 := by unfold inP; simp
def rePost (r : Rec) : Bool := inR r.2.1 && (decide (r.2.2.1 = 0) && (nvB r.2.2.2.1 && emB r.2.2.2.2))
def reMoved (r : Rec) : Bool := inR r.2.1 && (inT r.2.2.1 && (emB r.2.2.2.1 && emB r.2.2.2.2))
def reTwo (r : Rec) : Bool := decide (r.2.1 = 0) && (decide (r.2.2.1 = 0) && (nvB r.2.2.2.1 && (nvB r.2.2.2.2 && !decide (r.2.2.2.1 = r.2.2.2.2))))
def reB (r : Rec) : Bool := if r.1 = 1 then rePost r else if r.1 = 2 then reMoved r else if r.1 = 3 ∨ r.1 = 4 then reTwo r else false
theorem reB_1 {r : Rec} (h : r.1 = 1) : reB r = rePost r := by unfold reB; rw [if_pos h]
theorem reB_2 {r : Rec} (h : r.1 = 2) : reB r = reMoved r := by unfold reB; rw [if_neg (by omega), if_pos h]
theorem reB_3 {r : Rec} (h : r.1 = 3 ∨ r.1 = 4) : reB r = reTwo r := by unfold reB; rw [if_neg (by omega), if_neg (by omega), if_pos h]
theorem reB_0 {r : Rec} (h : r.1 < 1 ∨ 4 < r.1) : reB r = false := by unfold reB; rw [if_neg (by omega), if_neg (by omega), if_neg (by omega)]
theorem rePost_iff {r : Rec} : rePost r = true ↔ inR r.2.1 = true ∧ r.2.2.1 = 0 ∧ nvB r.2.2.2.1 = true ∧ r.2.2.2.2 = ⟨#[]⟩ := by unfold rePost; simp [emB_iff]
theorem reMoved_iff {r : Rec} : reMoved r = true ↔ inR r.2.1 = true ∧ inT r.2.2.1 = true ∧ r.2.2.2.1 = ⟨#[]⟩ ∧ r.2.2.2.2 = ⟨#[]⟩ := by unfold reMoved; simp [emB_iff]
theorem reTwo_iff {r : Rec} : reTwo r = true ↔ r.2.1 = 0 ∧ r.2.2.1 = 0 ∧ nvB r.2.2.2.1 = true ∧ nvB r.2.2.2.2 = true ∧ r.2.2.2.1 ≠ r.2.2.2.2 := by unfold reTwo; simp
/-- A valid record is one of four. -/
theorem re_ways {r : Rec} (h : reB r = true) : (∃ i s, r = (1, i, 0, s, ⟨#[]⟩) ∧ inR i = true ∧ nvB s = true) ∨ (∃ i d, r = (2, i, d, ⟨#[]⟩, ⟨#[]⟩) ∧ inR i = true ∧ inT d = true) ∨ (∃ s t, (r = (3, 0, 0, s, t) ∨ r = (4, 0, 0, s, t)) ∧ nvB s = true ∧ nvB t = true ∧ s ≠ t) := by
  obtain ⟨k, i, d, s, t⟩ := r
  by_cases h1 : k = 1
  · subst h1
    rw [reB_1 rfl, rePost_iff] at h
    obtain ⟨a, b, c, e⟩ := h
    simp only at a b c e
    subst b e
    exact .inl ⟨i, s, rfl, a, c⟩
  by_cases h2 : k = 2
  · subst h2
    rw [reB_2 rfl, reMoved_iff] at h
    obtain ⟨a, b, c, e⟩ := h
    simp only at a b c e
    subst c e
    exact .inr (.inl ⟨i, d, rfl, a, b⟩)
  by_cases h3 : k = 3 ∨ k = 4
  · rw [reB_3 h3, reTwo_iff] at h
    obtain ⟨a, b, c, e, f⟩ := h
    simp only at a b c e f
    subst a b
    refine .inr (.inr ⟨s, t, ?_, c, e, f⟩)
    rcases h3 with rfl | rfl
    · exact .inl rfl
    · exact .inr rfl
  · rw [reB_0 (by show k < 1 ∨ 4 < k; omega)] at h
    cases h

/-- A digit. -/
def dg (n : Nat) : UInt8 := 48 + UInt8.ofNat n
theorem dg_nat {n : Nat} (h : n < 10) : (dg n).toNat = 48 + n := by unfold dg; rw [UInt8.toNat_add, UInt8.toNat_ofNat']; simp; omega
/-- The decimals of a number less than 1000. -/
def decL (n : Nat) : Txt := if n < 10 then [dg n] else if n < 100 then [dg (n / 10), dg (n % 10)] else [dg (n / 100), dg (n / 10 % 10), dg (n % 10)]
def isDg (c : UInt8) : Bool := 48 ≤ c && c ≤ 57
theorem isDg_iff {c : UInt8} : isDg c = true ↔ 48 ≤ c.toNat ∧ c.toNat ≤ 57 := by unfold isDg; simp [UInt8.le_iff_toNat_le]
theorem isDg_dg {n : Nat} (h : n < 10) : isDg (dg n) = true := by rw [isDg_iff, dg_nat h]; omega
def valL (l : Txt) : Nat := l.foldl (fun n c => 10 * n + (c.toNat - 48)) 0
def numB (l : Txt) : Bool := decide (1 ≤ l.length) && (decide (l.length ≤ 3) && l.all isDg)
def numL (l : Txt) : Int := if numB l = true then (valL l : Int) else -1
theorem decL_dg {n : Nat} (h : n < 1000) : ∀ c ∈ decL n, isDg c = true := by
  unfold decL
  intro c hc
  split at hc
  · simp at hc; subst hc; exact isDg_dg (by omega)
  · split at hc
    · simp at hc; rcases hc with rfl | rfl <;> exact isDg_dg (by omega)
    · simp at hc; rcases hc with rfl | rfl | rfl <;> exact isDg_dg (by omega)
theorem decL_len {n : Nat} : 1 ≤ (decL n).length ∧ (decL n).length ≤ 3 := by
  unfold decL
  split
  · simp
  · split <;> simp
theorem valL_dec {n : Nat} (h : n < 1000) : valL (decL n) = n := by
  unfold decL valL
  split
  · simp [dg_nat (show n < 10 by omega)]
  · split
    · simp [dg_nat (show n / 10 < 10 by omega), dg_nat (show n % 10 < 10 by omega)]; omega
    · simp [dg_nat (show n / 100 < 10 by omega), dg_nat (show n / 10 % 10 < 10 by omega), dg_nat (show n % 10 < 10 by omega)]; omega
theorem numL_dec {n : Nat} (h : n < 1000) : numL (decL n) = n := by
  unfold numL numB
  rw [if_pos, valL_dec h]
  have := @decL_len n
  simp only [Bool.and_eq_true, decide_eq_true_eq, List.all_eq_true]
  exact ⟨this.1, this.2, decL_dg h⟩
theorem decL_inj {m n : Nat} (hm : m < 1000) (hn : n < 1000) (h : decL m = decL n) : m = n := by rw [← valL_dec hm, h, valL_dec hn]

/-- The check of a text. -/
def chkF (n : Nat) (l : Txt) : Nat := l.foldl (fun n c => (263 * n + c.toNat) % 997) n
def chk (l : Txt) : Nat := chkF 17 l
theorem chkF_lt {n : Nat} {l : Txt} (h : n < 997) : chkF n l < 997 := by
  induction l generalizing n with
  | nil => exact h
  | cons c l ih => exact ih (Nat.mod_lt _ (by omega))
theorem chk_lt (l : Txt) : chk l < 997 := chkF_lt (by omega)
theorem chkF_app (n : Nat) (l m : Txt) : chkF n (l ++ m) = chkF (chkF n l) m := List.foldl_append
theorem chk_snoc (l : Txt) (c : UInt8) : chk (l ++ [c]) = (263 * chk l + c.toNat) % 997 := by unfold chk; rw [chkF_app]; rfl
theorem mod_inj {m n b : Nat} (hm : m < 997) (hn : n < 997) (h : (263 * m + b) % 997 = (263 * n + b) % 997) : m = n := by omega
theorem chkF_inj {l : Txt} : ∀ {m n : Nat}, m < 997 → n < 997 → chkF m l = chkF n l → m = n := by
  induction l with
  | nil => exact fun _ _ h => h
  | cons c l ih => exact fun hm hn h => mod_inj hm hn (ih (Nat.mod_lt _ (by omega)) (Nat.mod_lt _ (by omega)) h)
theorem chk_ne {a m : Txt} {x y : UInt8} (h : y.toNat = x.toNat + 1) : chk (a ++ x :: m) ≠ chk (a ++ y :: m) := by
  intro e
  unfold chk at e
  rw [chkF_app, chkF_app] at e
  have h1 := chkF_inj (l := m) (Nat.mod_lt _ (by omega)) (Nat.mod_lt _ (by omega)) (show chkF ((263 * chkF 17 a + x.toNat) % 997) m = chkF ((263 * chkF 17 a + y.toNat) % 997) m from e)
  rw [h] at h1
  omega

def wPost : Txt := [112, 111, 115, 116]
def wMoved : Txt := [109, 111, 118, 101, 100]
def wFollow : Txt := [102, 111, 108, 108, 111, 119]
def wUnf : Txt := [117, 110, 102, 111, 108, 108, 111, 119]
/-- The three words of a record. -/
def wds (r : Rec) : Txt × Txt × Txt :=
  if r.1 = 1 then (wPost, decL r.2.1.toNat, r.2.2.2.1.data.toList) else if r.1 = 2 then (wMoved, decL r.2.1.toNat, decL r.2.2.1.toNat) else if r.1 = 3 then (wFollow, r.2.2.2.1.data.toList, r.2.2.2.2.data.toList) else (wUnf, r.2.2.2.1.data.toList, r.2.2.2.2.data.toList)
/-- Four words. -/
def join4 (p : Nat) (r : Rec) : Txt := decL p ++ 32 :: ((wds r).1 ++ 32 :: ((wds r).2.1 ++ 32 :: (wds r).2.2))
def lineL (p : Nat) (r : Rec) : Txt := join4 p r ++ 32 :: decL (chk (join4 p r))
def textL (p : Int) (r : Rec) : Txt := if (inP p && reB r) = true then lineL p.toNat r else []
theorem textL_1 {p : Int} {r : Rec} (h : inP p = false) : textL p r = [] := by unfold textL; rw [h]; rfl
theorem textL_2 {p : Int} {r : Rec} (h : reB r = false) : textL p r = [] := by unfold textL; rw [h, Bool.and_false]; rfl
theorem textL_t {p : Int} {r : Rec} (h1 : inP p = true) (h2 : reB r = true) : textL p r = lineL p.toNat r := by unfold textL; rw [h1, h2]; rfl
theorem textL_ne {p : Int} {r : Rec} (h : textL p r ≠ []) : inP p = true ∧ reB r = true ∧ textL p r = lineL p.toNat r := by
  unfold textL at h ⊢
  split at h
  · rename_i hc
    rw [if_pos hc]
    rw [Bool.and_eq_true] at hc
    exact ⟨hc.1, hc.2, rfl⟩
  · exact absurd rfl h

/-- No blank, no 31: what a word is made of. -/
def okC (c : UInt8) : Prop := isDg c = true ∨ ltr c = true
theorem okC_ne {c : UInt8} (h : okC c) : c ≠ 32 ∧ c + 1 ≠ 32 ∧ (c + 1).toNat = c.toNat + 1 := by
  have hb : 48 ≤ c.toNat ∧ c.toNat ≤ 122 := by
    rcases h with h | h
    · have := isDg_iff.1 h; omega
    · have := (ltr_iff c).1 h; omega
  have h1 : (c + 1).toNat = c.toNat + 1 := by rw [UInt8.toNat_add]; simp; omega
  refine ⟨fun e => ?_, fun e => ?_, h1⟩
  · rw [e] at hb; simp at hb
  · rw [e] at h1; simp at h1; omega
theorem nv_ok {s : ByteArray} (h : nvB s = true) : ∀ c ∈ s.data.toList, okC c := fun c hc => by
  unfold nvB at h
  rw [Bool.and_eq_true, List.all_eq_true] at h
  exact .inr (h.2 c hc)
theorem dec_ok {n : Nat} (h : n < 1000) : ∀ c ∈ decL n, okC c := fun c hc => .inl (decL_dg h c hc)
theorem lit_ok : (∀ c ∈ wPost, okC c) ∧ (∀ c ∈ wMoved, okC c) ∧ (∀ c ∈ wFollow, okC c) ∧ (∀ c ∈ wUnf, okC c) := by
  refine ⟨?_, ?_, ?_, ?_⟩ <;> (intro c hc; right; revert c; decide)
theorem wds_ok {r : Rec} (h : reB r = true) : (∀ c ∈ (wds r).1, okC c) ∧ (∀ c ∈ (wds r).2.1, okC c) ∧ (∀ c ∈ (wds r).2.2, okC c) := by
  rcases re_ways h with ⟨i, s, rfl, hi, hs⟩ | ⟨i, d, rfl, hi, hd⟩ | ⟨s, t, rfl | rfl, hs, ht, _⟩
  · have := inR_iff.1 hi
    exact ⟨lit_ok.1, dec_ok (by show i.toNat < 1000; omega), nv_ok hs⟩
  · have := inR_iff.1 hi
    have := inT_iff.1 hd
    exact ⟨lit_ok.2.1, dec_ok (by show i.toNat < 1000; omega), dec_ok (by show d.toNat < 1000; omega)⟩
  · exact ⟨lit_ok.2.2.1, nv_ok hs, nv_ok ht⟩
  · exact ⟨lit_ok.2.2.2, nv_ok hs, nv_ok ht⟩
end Go.Proofs.YtmofnmklodmkmaaGreatDoor
