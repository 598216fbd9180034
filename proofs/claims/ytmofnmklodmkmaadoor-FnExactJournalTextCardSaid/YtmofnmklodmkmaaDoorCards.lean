/-
  DERIVED. GIVEN WITH THE SEED: THE CARDS: each row of YtmofnmklodmkmaaDoorRows.lean that lists a variable, with what it lists TIED to the program's text (the seventh form; the later family's looks); each row that meets fmt, with fmt's text TOLD by the authors' own Lean function (tested against real Go, not proved from fmt's source: count such statements apart). THE CARD IS WHAT COUNTS. Prove the row's statement (the work); the ties are given (YtmofnmklodmkmaaDoorTie.lean); close each card by the builder's one call (the guide's Derived/Test/ToyasCard.lean, 'card_holds'). Laid BY PROGRAM, IN A SANDBOX (cutbox-door.mjs). By AI agents, Wed Nov 11 2026. No macro, syntax, notation, axiom, sorry.
-/
import Derived.Test.YtmofnmklodmkmaaDoorRows
import GoSem.ClaimSeven
namespace Go.Proofs.YtmofnmklodmkmaaDoor
namespace Rows

/-- THE TIED CARD OF 'laws.FnJournalPart'. -/
def fnJournalPartCard : Claim7 := { stood := { row := fnJournalPartRow, standIns := [], harness := (true, "f1c13103a7588bdeb2a2825069a26883fa3086998731ec040d3c96efb0c51ad1"), looks := true }, kinds := [], alts := [], laidByText := true, laidKinds := [.data, .data, .data], laidTests := true, laidLooks := .later }
def FnJournalPartCardSaid : Prop := Claim7.holds Tryd.pinned (.plain (OpenSpec.ofChange fnJournalPartSpec)) fnJournalPartCard

/-- THE TIED CARD OF 'laws.FnJournalLines'. -/
def fnJournalLinesCard : Claim7 := { stood := { row := fnJournalLinesRow, standIns := [], harness := (true, "f1c13103a7588bdeb2a2825069a26883fa3086998731ec040d3c96efb0c51ad1"), looks := true }, kinds := [], alts := [], laidByText := true, laidKinds := [.data, .data, .data], laidTests := true, laidLooks := .later }
def FnJournalLinesCardSaid : Prop := Claim7.holds Tryd.pinned (.plain (OpenSpec.ofChange fnJournalLinesSpec)) fnJournalLinesCard

/-- THE TIED CARD OF 'laws.FnExactJournalText'. -/
def fnExactJournalTextCard : Claim7 := { stood := { row := fnExactJournalTextRow, standIns := [], harness := (true, "f1c13103a7588bdeb2a2825069a26883fa3086998731ec040d3c96efb0c51ad1"), looks := true }, kinds := [], alts := [], laidByText := true, laidKinds := [.data, .data, .data], laidTests := true, laidLooks := .later }
def FnExactJournalTextCardSaid : Prop := Claim7.holds Tryd.pinned (.plain (OpenSpec.ofChange fnExactJournalTextSpec)) fnExactJournalTextCard

/-- THE SECOND FORM's CARD OF 'laws.FnJournalPart'. -/
def fnJournalPartUptoCard : Claim7 := { stood := { row := fnJournalPartUptoRow, standIns := [], harness := (true, "f1c13103a7588bdeb2a2825069a26883fa3086998731ec040d3c96efb0c51ad1"), looks := true }, kinds := [], alts := [], laidByText := true, laidKinds := [.data, .data, .data], laidTests := true, laidLooks := .later }
def FnJournalPartUptoCardSaid : Prop := Claim7.holds Tryd.pinned (.plain (OpenSpec.upto fnJournalPartSpec)) fnJournalPartUptoCard

/-- THE SECOND FORM's CARD OF 'laws.FnJournalLines'. -/
def fnJournalLinesUptoCard : Claim7 := { stood := { row := fnJournalLinesUptoRow, standIns := [], harness := (true, "f1c13103a7588bdeb2a2825069a26883fa3086998731ec040d3c96efb0c51ad1"), looks := true }, kinds := [], alts := [], laidByText := true, laidKinds := [.data, .data, .data], laidTests := true, laidLooks := .later }
def FnJournalLinesUptoCardSaid : Prop := Claim7.holds Tryd.pinned (.plain (OpenSpec.upto fnJournalLinesSpec)) fnJournalLinesUptoCard

/-- THE SECOND FORM's CARD OF 'laws.FnExactJournalText'. -/
def fnExactJournalTextUptoCard : Claim7 := { stood := { row := fnExactJournalTextUptoRow, standIns := [], harness := (true, "f1c13103a7588bdeb2a2825069a26883fa3086998731ec040d3c96efb0c51ad1"), looks := true }, kinds := [], alts := [], laidByText := true, laidKinds := [.data, .data, .data], laidTests := true, laidLooks := .later }
def FnExactJournalTextUptoCardSaid : Prop := Claim7.holds Tryd.pinned (.plain (OpenSpec.upto fnExactJournalTextSpec)) fnExactJournalTextUptoCard
end Rows
end Go.Proofs.YtmofnmklodmkmaaDoor
