/- The head of the program's text, as letters; what the shells ask of it. -/
import Derived.Test.YtmofnmklodmkmaaGreatDoorRows
import Derived.Test.YtmofnmklodmkmaaGreatDoorOwn
import Derived.ProofKit
import Derived.ChangeOld
namespace Go.Proofs.YtmofnmklodmkmaaGreatDoor
theorem band {a b : Bool} (h1 : a = true) (h2 : b = true) : (a && b) = true := by rw [h1, h2]; rfl
def headSigns : List Char := [104, 97, 114, 110, 101, 115, 115, 32, 49, 49, 52, 51, 52, 98, 51, 49, 57, 49, 48, 97, 48, 100, 52, 102, 57, 48, 99, 56, 101, 49, 55, 98, 101, 55, 102, 55, 53, 55, 100, 99, 102, 100, 51, 50, 52, 97, 52, 50, 53, 99, 53, 52, 55, 57, 97, 53, 101, 57, 49, 57, 48, 98, 48, 48, 53, 49, 48, 102, 53, 98, 101, 99, 32, 99, 117, 116, 32, 97, 116, 32, 108, 111, 111, 112, 46, 101, 120, 97, 109, 112, 108, 101, 47, 102, 97, 110, 111, 117, 116, 108, 111, 103, 47, 108, 97, 119, 115, 46, 70, 110, 74, 111, 117, 114, 110, 97, 108, 32, 108, 111, 111, 112, 46, 101, 120, 97, 109, 112, 108, 101, 47, 102, 97, 110, 111, 117, 116, 108, 111, 103, 47, 108, 97, 119, 115, 46, 70, 110, 74, 111, 117, 114, 110, 97, 108, 84, 111, 114, 110, 32, 108, 111, 111, 112, 46, 101, 120, 97, 109, 112, 108, 101, 47, 102, 97, 110, 111, 117, 116, 108, 111, 103, 47, 108, 97, 119, 115, 46, 70, 110, 74, 111, 117, 114, 110, 97, 108, 66, 101, 103, 105, 110, 32, 108, 111, 111, 112, 46, 101, 120, 97, 109, 112, 108, 101, 47, 102, 97, 110, 111, 117, 116, 108, 111, 103, 47, 108, 97, 119, 115, 46, 70, 110, 74, 111, 117, 114, 110, 97, 108, 70, 114, 111, 109, 32, 108, 111, 111, 112, 46, 101, 120, 97, 109, 112, 108, 101, 47, 102, 97, 110, 111, 117, 116, 108, 111, 103, 47, 108, 97, 119, 115, 46, 70, 110, 74, 111, 117, 114, 110, 97, 108, 87, 104, 121, 32, 108, 111, 111, 112, 46, 101, 120, 97, 109, 112, 108, 101, 47, 102, 97, 110, 111, 117, 116, 108, 111, 103, 47, 108, 97, 119, 115, 46, 70, 110, 74, 111, 117, 114, 110, 97, 108, 79, 110, 32, 108, 111, 111, 112, 46, 101, 120, 97, 109, 112, 108, 101, 47, 102, 97, 110, 111, 117, 116, 108, 111, 103, 47, 108, 97, 119, 115, 46, 70, 110, 69, 120, 97, 99, 116, 74, 111, 117, 114, 110, 97, 108, 70, 114, 111, 109].map Char.ofNat
theorem head_is : Tryz.prog.initOrder = String.ofList headSigns := by kernel_rfl
theorem head_list : Tryz.prog.initOrder.toList = headSigns := by rw [head_is, String.toList_ofList]
theorem head_of {α : Type} {f : Program → α} (g : List Char → α) (P : Program) (h : ∀ P : Program, f P = g P.initOrder.toList) {l : List Char} (hl : P.initOrder.toList = l) {a : α} (ha : g l = a) : f P = a := by
  subst hl; exact (h P).trans ha
theorem head_of2 {α : Type} {f : Program → α} (g : Program → List Char → α) (P : Program) (h : ∀ P : Program, f P = g P P.initOrder.toList) {l : List Char} (hl : P.initOrder.toList = l) {a : α} (ha : g P l = a) : f P = a := by
  subst hl; exact (h P).trans ha
theorem head_make : Tryz.prog.make = some .cut :=
  head_of2 (f := Program.make) (fun P l => match behindMainWord (wordsSigns l) with
    | c :: rest => if c == "gc".toList || c == "spec".toList then some .whole else if c == "cut".toList || (c == "finals".toList && rest.head? == some "cut".toList) then some .cut else if c == "carried".toList then some .carried else if P.headLifts.isEmpty then none else some (.lifted P.headLifts)
    | [] => none) _ (fun _ => rfl) head_list (by kernel_rfl)
theorem head_lifts : Tryz.prog.liftsFinal = false :=
  head_of (f := Program.liftsFinal) (fun l => ((behindMainWord (wordsSigns l)).head? == some "carried".toList && (behindMainWord (wordsSigns l)).take 3 != ["carried".toList, "gc".toList, "cut".toList]) || (if (stripLifts liftWords (behindMainWord (wordsSigns l))).2.head? == some "cut".toList then (stripLifts liftWords (behindMainWord (wordsSigns l))).1 else []).contains "finals") _ (fun _ => rfl) head_list (by kernel_rfl)
theorem head_enter : Tryz.prog.mayEnter = true :=
  head_of2 (f := Program.mayEnter) (fun P l => match behindMainWord (wordsSigns l) with
    | c :: rest =>
      ((c == "gc".toList || c == "spec".toList) && (rest.isEmpty || rest.head? == some "stop".toList)) ||
      (c == "carried".toList && rest.take 2 == ["gc".toList, "cut".toList] && !P.laysLater && !P.bearsReflect) ||
      ((stripLifts liftWords (c :: rest)).2.head? == some "cut".toList &&
        ((stripLifts liftWords (c :: rest)).1.contains "finals" || !P.laysLater) && ((stripLifts liftWords (c :: rest)).1.contains "reflectrows" || !P.bearsReflect) &&
        ((stripLifts liftWords (c :: rest)).1.contains "reflectrows" || !(stripLifts liftWords (c :: rest)).1.contains "leanrows") &&
        P.doorFits (stripLifts liftWords (c :: rest)).1)
    | [] => false) _ (fun _ => rfl) head_list (by kernel_rfl)
end Go.Proofs.YtmofnmklodmkmaaGreatDoor
