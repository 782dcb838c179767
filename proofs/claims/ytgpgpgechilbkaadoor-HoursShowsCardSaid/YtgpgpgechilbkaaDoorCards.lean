/-
  DERIVED. GIVEN WITH THE SEED: THE CARDS: each row of YtgpgpgechilbkaaDoorRows.lean that lists a variable, with what it lists TIED to the program's text (the seventh form; the later family's looks); each row that meets fmt, with fmt's text TOLD by the authors' own Lean function (tested against real Go, not proved from fmt's source: count such statements apart). THE CARD IS WHAT COUNTS. Prove the row's statement (the work); the ties are given (YtgpgpgechilbkaaDoorTie.lean); close each card by the builder's one call (the guide's Derived/Test/ToyasCard.lean, 'card_holds'). Laid BY PROGRAM, IN A SANDBOX (cutbox-door.mjs). By AI agents, Wed Nov 11 2026. No macro, syntax, notation, axiom, sorry.
-/
import Derived.Test.YtgpgpgechilbkaaDoorRows
import GoSem.ClaimSeven
namespace Go.Proofs.YtgpgpgechilbkaaDoor
namespace Rows

/-- THE TIED CARD OF 'musterlaw06.HoursShows'. -/
def hoursShowsCard : Claim7 := { stood := { row := hoursShowsRow, standIns := [], harness := (true, "7a8b63b8043e4705017d226270d1fab4e4cc86cdae078cae6e3e1fa3a2a24943"), looks := true }, kinds := [], alts := [], laidByText := true, laidKinds := [.data, .data, .data, .data, .sentinel, .sentinel, .data, .pinned], laidTests := true, laidLooks := .later }
def HoursShowsCardSaid : Prop := Claim7.holds Tryd.pinned (.plain (OpenSpec.ofChange hoursShowsSpec)) hoursShowsCard

/-- THE TIED CARD OF 'musterlaw06.HoursBack'. -/
def hoursBackCard : Claim7 := { stood := { row := hoursBackRow, standIns := [], harness := (true, "7a8b63b8043e4705017d226270d1fab4e4cc86cdae078cae6e3e1fa3a2a24943"), looks := true }, kinds := [], alts := [], laidByText := true, laidKinds := [.data, .data, .data, .data, .sentinel, .sentinel, .data, .pinned], laidTests := true, laidLooks := .later }
def HoursBackCardSaid : Prop := Claim7.holds Tryd.pinned (.plain (OpenSpec.ofChange hoursBackSpec)) hoursBackCard

/-- THE TIED CARD OF 'musterlaw06.HoursOnce'. -/
def hoursOnceCard : Claim7 := { stood := { row := hoursOnceRow, standIns := [], harness := (true, "7a8b63b8043e4705017d226270d1fab4e4cc86cdae078cae6e3e1fa3a2a24943"), looks := true }, kinds := [], alts := [], laidByText := true, laidKinds := [.data, .data, .data, .data, .sentinel, .sentinel, .data, .pinned], laidTests := true, laidLooks := .later }
def HoursOnceCardSaid : Prop := Claim7.holds Tryd.pinned (.plain (OpenSpec.ofChange hoursOnceSpec)) hoursOnceCard

/-- THE SECOND FORM's CARD OF 'musterlaw06.HoursShows'. -/
def hoursShowsUptoCard : Claim7 := { stood := { row := hoursShowsUptoRow, standIns := [], harness := (true, "7a8b63b8043e4705017d226270d1fab4e4cc86cdae078cae6e3e1fa3a2a24943"), looks := true }, kinds := [], alts := [], laidByText := true, laidKinds := [.data, .data, .data, .data, .sentinel, .sentinel, .data, .pinned], laidTests := true, laidLooks := .later }
def HoursShowsUptoCardSaid : Prop := Claim7.holds Tryd.pinned (.plain (OpenSpec.upto hoursShowsSpec)) hoursShowsUptoCard

/-- THE SECOND FORM's CARD OF 'musterlaw06.HoursBack'. -/
def hoursBackUptoCard : Claim7 := { stood := { row := hoursBackUptoRow, standIns := [], harness := (true, "7a8b63b8043e4705017d226270d1fab4e4cc86cdae078cae6e3e1fa3a2a24943"), looks := true }, kinds := [], alts := [], laidByText := true, laidKinds := [.data, .data, .data, .data, .sentinel, .sentinel, .data, .pinned], laidTests := true, laidLooks := .later }
def HoursBackUptoCardSaid : Prop := Claim7.holds Tryd.pinned (.plain (OpenSpec.upto hoursBackSpec)) hoursBackUptoCard

/-- THE SECOND FORM's CARD OF 'musterlaw06.HoursOnce'. -/
def hoursOnceUptoCard : Claim7 := { stood := { row := hoursOnceUptoRow, standIns := [], harness := (true, "7a8b63b8043e4705017d226270d1fab4e4cc86cdae078cae6e3e1fa3a2a24943"), looks := true }, kinds := [], alts := [], laidByText := true, laidKinds := [.data, .data, .data, .data, .sentinel, .sentinel, .data, .pinned], laidTests := true, laidLooks := .later }
def HoursOnceUptoCardSaid : Prop := Claim7.holds Tryd.pinned (.plain (OpenSpec.upto hoursOnceSpec)) hoursOnceUptoCard
end Rows
end Go.Proofs.YtgpgpgechilbkaaDoor
