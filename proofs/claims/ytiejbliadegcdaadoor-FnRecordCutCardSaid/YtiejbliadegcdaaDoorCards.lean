/-
  DERIVED. GIVEN WITH THE SEED: THE CARDS: each row of YtiejbliadegcdaaDoorRows.lean that lists a variable, with what it lists TIED to the program's text (the seventh form; the later family's looks); each row that meets fmt, with fmt's text TOLD by the authors' own Lean function (tested against real Go, not proved from fmt's source: count such statements apart). THE CARD IS WHAT COUNTS. Prove the row's statement (the work); the ties are given (YtiejbliadegcdaaDoorTie.lean); close each card by the builder's one call (the guide's Derived/Test/ToyasCard.lean, 'card_holds'). Laid BY PROGRAM, IN A SANDBOX (cutbox-door.mjs). By AI agents, Wed Nov 11 2026. No macro, syntax, notation, axiom, sorry.
-/
import Derived.Test.YtiejbliadegcdaaDoorRows
import GoSem.ClaimSeven
namespace Go.Proofs.YtiejbliadegcdaaDoor
namespace Rows

/-- THE TIED CARD OF 'laws.FnRecordText'. -/
def fnRecordTextCard : Claim7 := { stood := { row := fnRecordTextRow, standIns := [], harness := (true, "79875ab31245ab9d301da5f9c5f44dd6e54e6be473201d581d11b9e6594a15e3"), looks := true }, kinds := [], alts := [], laidByText := true, laidKinds := [.data, .data, .data, .data, .sentinel, .sentinel, .pinned], laidTests := true, laidLooks := .later }
def FnRecordTextCardSaid : Prop := Claim7.holds Tryd.pinned (.plain (OpenSpec.ofChange fnRecordTextSpec)) fnRecordTextCard

/-- THE TIED CARD OF 'laws.FnRecordFrom'. -/
def fnRecordFromCard : Claim7 := { stood := { row := fnRecordFromRow, standIns := [], harness := (true, "79875ab31245ab9d301da5f9c5f44dd6e54e6be473201d581d11b9e6594a15e3"), looks := true }, kinds := [], alts := [], laidByText := true, laidKinds := [.data, .data, .data, .data, .sentinel, .sentinel, .pinned], laidTests := true, laidLooks := .later }
def FnRecordFromCardSaid : Prop := Claim7.holds Tryd.pinned (.plain (OpenSpec.ofChange fnRecordFromSpec)) fnRecordFromCard

/-- THE TIED CARD OF 'laws.FnRecordDamage'. -/
def fnRecordDamageCard : Claim7 := { stood := { row := fnRecordDamageRow, standIns := [], harness := (true, "79875ab31245ab9d301da5f9c5f44dd6e54e6be473201d581d11b9e6594a15e3"), looks := true }, kinds := [], alts := [], laidByText := true, laidKinds := [.data, .data, .data, .data, .sentinel, .sentinel, .pinned], laidTests := true, laidLooks := .later }
def FnRecordDamageCardSaid : Prop := Claim7.holds Tryd.pinned (.plain (OpenSpec.ofChange fnRecordDamageSpec)) fnRecordDamageCard

/-- THE TIED CARD OF 'laws.FnRecordCut'. -/
def fnRecordCutCard : Claim7 := { stood := { row := fnRecordCutRow, standIns := [], harness := (true, "79875ab31245ab9d301da5f9c5f44dd6e54e6be473201d581d11b9e6594a15e3"), looks := true }, kinds := [], alts := [], laidByText := true, laidKinds := [.data, .data, .data, .data, .sentinel, .sentinel, .pinned], laidTests := true, laidLooks := .later }
def FnRecordCutCardSaid : Prop := Claim7.holds Tryd.pinned (.plain (OpenSpec.ofChange fnRecordCutSpec)) fnRecordCutCard

/-- THE TIED CARD OF 'laws.FnRecordPlace'. -/
def fnRecordPlaceCard : Claim7 := { stood := { row := fnRecordPlaceRow, standIns := [], harness := (true, "79875ab31245ab9d301da5f9c5f44dd6e54e6be473201d581d11b9e6594a15e3"), looks := true }, kinds := [], alts := [], laidByText := true, laidKinds := [.data, .data, .data], laidTests := true, laidLooks := .later }
def FnRecordPlaceCardSaid : Prop := Claim7.holds Tryd.pinned (.plain (OpenSpec.ofChange fnRecordPlaceSpec)) fnRecordPlaceCard

/-- THE TIED CARD OF 'laws.FnRecordWords'. -/
def fnRecordWordsCard : Claim7 := { stood := { row := fnRecordWordsRow, standIns := [], harness := (true, "79875ab31245ab9d301da5f9c5f44dd6e54e6be473201d581d11b9e6594a15e3"), looks := true }, kinds := [], alts := [], laidByText := true, laidKinds := [.data, .data, .data], laidTests := true, laidLooks := .later }
def FnRecordWordsCardSaid : Prop := Claim7.holds Tryd.pinned (.plain (OpenSpec.ofChange fnRecordWordsSpec)) fnRecordWordsCard

/-- THE TIED CARD OF 'laws.FnExactRecordText'. -/
def fnExactRecordTextCard : Claim7 := { stood := { row := fnExactRecordTextRow, standIns := [], harness := (true, "79875ab31245ab9d301da5f9c5f44dd6e54e6be473201d581d11b9e6594a15e3"), looks := true }, kinds := [], alts := [], laidByText := true, laidKinds := [.data, .data, .data], laidTests := true, laidLooks := .later }
def FnExactRecordTextCardSaid : Prop := Claim7.holds Tryd.pinned (.plain (OpenSpec.ofChange fnExactRecordTextSpec)) fnExactRecordTextCard

/-- THE TIED CARD OF 'laws.FnExactRecordFrom'. -/
def fnExactRecordFromCard : Claim7 := { stood := { row := fnExactRecordFromRow, standIns := [], harness := (true, "79875ab31245ab9d301da5f9c5f44dd6e54e6be473201d581d11b9e6594a15e3"), looks := true }, kinds := [], alts := [], laidByText := true, laidKinds := [.data, .data, .data, .data, .sentinel, .sentinel, .pinned], laidTests := true, laidLooks := .later }
def FnExactRecordFromCardSaid : Prop := Claim7.holds Tryd.pinned (.plain (OpenSpec.ofChange fnExactRecordFromSpec)) fnExactRecordFromCard

/-- THE SECOND FORM's CARD OF 'laws.FnRecordText'. -/
def fnRecordTextUptoCard : Claim7 := { stood := { row := fnRecordTextUptoRow, standIns := [], harness := (true, "79875ab31245ab9d301da5f9c5f44dd6e54e6be473201d581d11b9e6594a15e3"), looks := true }, kinds := [], alts := [], laidByText := true, laidKinds := [.data, .data, .data, .data, .sentinel, .sentinel, .pinned], laidTests := true, laidLooks := .later }
def FnRecordTextUptoCardSaid : Prop := Claim7.holds Tryd.pinned (.plain (OpenSpec.upto fnRecordTextSpec)) fnRecordTextUptoCard

/-- THE SECOND FORM's CARD OF 'laws.FnRecordFrom'. -/
def fnRecordFromUptoCard : Claim7 := { stood := { row := fnRecordFromUptoRow, standIns := [], harness := (true, "79875ab31245ab9d301da5f9c5f44dd6e54e6be473201d581d11b9e6594a15e3"), looks := true }, kinds := [], alts := [], laidByText := true, laidKinds := [.data, .data, .data, .data, .sentinel, .sentinel, .pinned], laidTests := true, laidLooks := .later }
def FnRecordFromUptoCardSaid : Prop := Claim7.holds Tryd.pinned (.plain (OpenSpec.upto fnRecordFromSpec)) fnRecordFromUptoCard

/-- THE SECOND FORM's CARD OF 'laws.FnRecordDamage'. -/
def fnRecordDamageUptoCard : Claim7 := { stood := { row := fnRecordDamageUptoRow, standIns := [], harness := (true, "79875ab31245ab9d301da5f9c5f44dd6e54e6be473201d581d11b9e6594a15e3"), looks := true }, kinds := [], alts := [], laidByText := true, laidKinds := [.data, .data, .data, .data, .sentinel, .sentinel, .pinned], laidTests := true, laidLooks := .later }
def FnRecordDamageUptoCardSaid : Prop := Claim7.holds Tryd.pinned (.plain (OpenSpec.upto fnRecordDamageSpec)) fnRecordDamageUptoCard

/-- THE SECOND FORM's CARD OF 'laws.FnRecordCut'. -/
def fnRecordCutUptoCard : Claim7 := { stood := { row := fnRecordCutUptoRow, standIns := [], harness := (true, "79875ab31245ab9d301da5f9c5f44dd6e54e6be473201d581d11b9e6594a15e3"), looks := true }, kinds := [], alts := [], laidByText := true, laidKinds := [.data, .data, .data, .data, .sentinel, .sentinel, .pinned], laidTests := true, laidLooks := .later }
def FnRecordCutUptoCardSaid : Prop := Claim7.holds Tryd.pinned (.plain (OpenSpec.upto fnRecordCutSpec)) fnRecordCutUptoCard

/-- THE SECOND FORM's CARD OF 'laws.FnRecordPlace'. -/
def fnRecordPlaceUptoCard : Claim7 := { stood := { row := fnRecordPlaceUptoRow, standIns := [], harness := (true, "79875ab31245ab9d301da5f9c5f44dd6e54e6be473201d581d11b9e6594a15e3"), looks := true }, kinds := [], alts := [], laidByText := true, laidKinds := [.data, .data, .data], laidTests := true, laidLooks := .later }
def FnRecordPlaceUptoCardSaid : Prop := Claim7.holds Tryd.pinned (.plain (OpenSpec.upto fnRecordPlaceSpec)) fnRecordPlaceUptoCard

/-- THE SECOND FORM's CARD OF 'laws.FnRecordWords'. -/
def fnRecordWordsUptoCard : Claim7 := { stood := { row := fnRecordWordsUptoRow, standIns := [], harness := (true, "79875ab31245ab9d301da5f9c5f44dd6e54e6be473201d581d11b9e6594a15e3"), looks := true }, kinds := [], alts := [], laidByText := true, laidKinds := [.data, .data, .data], laidTests := true, laidLooks := .later }
def FnRecordWordsUptoCardSaid : Prop := Claim7.holds Tryd.pinned (.plain (OpenSpec.upto fnRecordWordsSpec)) fnRecordWordsUptoCard

/-- THE SECOND FORM's CARD OF 'laws.FnExactRecordText'. -/
def fnExactRecordTextUptoCard : Claim7 := { stood := { row := fnExactRecordTextUptoRow, standIns := [], harness := (true, "79875ab31245ab9d301da5f9c5f44dd6e54e6be473201d581d11b9e6594a15e3"), looks := true }, kinds := [], alts := [], laidByText := true, laidKinds := [.data, .data, .data], laidTests := true, laidLooks := .later }
def FnExactRecordTextUptoCardSaid : Prop := Claim7.holds Tryd.pinned (.plain (OpenSpec.upto fnExactRecordTextSpec)) fnExactRecordTextUptoCard

/-- THE SECOND FORM's CARD OF 'laws.FnExactRecordFrom'. -/
def fnExactRecordFromUptoCard : Claim7 := { stood := { row := fnExactRecordFromUptoRow, standIns := [], harness := (true, "79875ab31245ab9d301da5f9c5f44dd6e54e6be473201d581d11b9e6594a15e3"), looks := true }, kinds := [], alts := [], laidByText := true, laidKinds := [.data, .data, .data, .data, .sentinel, .sentinel, .pinned], laidTests := true, laidLooks := .later }
def FnExactRecordFromUptoCardSaid : Prop := Claim7.holds Tryd.pinned (.plain (OpenSpec.upto fnExactRecordFromSpec)) fnExactRecordFromUptoCard
end Rows
end Go.Proofs.YtiejbliadegcdaaDoor
