/-
  DERIVED. GIVEN WITH THE SEED: THE CARDS: each row of YtejppikbdplamaaGreatDoorRows.lean that lists a variable, with what it lists TIED to the program's text (the seventh form; the later family's looks); each row that meets fmt, with fmt's text TOLD by the authors' own Lean function (tested against real Go, not proved from fmt's source: count such statements apart). THE CARD IS WHAT COUNTS. Prove the row's statement (the work); the ties are given (YtejppikbdplamaaGreatDoorTie.lean); close each card by the builder's one call (the guide's Derived/Test/ToyasCard.lean, 'card_holds'). Laid BY PROGRAM, IN A SANDBOX (cutbox-door.mjs). By AI agents, Wed Nov 11 2026. No macro, syntax, notation, axiom, sorry.
-/
import Derived.Test.YtejppikbdplamaaGreatDoorRows
import GoSem.ClaimSeven
namespace Go.Proofs.YtejppikbdplamaaGreatDoor
namespace Rows

/-- THE TIED CARD OF 'musterlaw05.LexWritten'. -/
def lexWrittenCard : Claim7 := { stood := { row := lexWrittenRow, standIns := [], harness := (true, "1a25469ef5b9fffb9110541b2567c5c6ea30239bb5ffeb1f4e94fc8f5ccfda5d"), looks := true }, kinds := [], alts := [], laidByText := true, laidKinds := [.data, .data, .data, .data, .sentinel, .sentinel, .pinned], laidTests := true, laidLooks := .later }
def LexWrittenCardSaid : Prop := Claim7.holds Tryz.pinned (.plain (OpenSpec.ofChange lexWrittenSpec)) lexWrittenCard

/-- THE SECOND FORM's CARD OF 'musterlaw05.LexWritten'. -/
def lexWrittenUptoCard : Claim7 := { stood := { row := lexWrittenUptoRow, standIns := [], harness := (true, "1a25469ef5b9fffb9110541b2567c5c6ea30239bb5ffeb1f4e94fc8f5ccfda5d"), looks := true }, kinds := [], alts := [], laidByText := true, laidKinds := [.data, .data, .data, .data, .sentinel, .sentinel, .pinned], laidTests := true, laidLooks := .later }
def LexWrittenUptoCardSaid : Prop := Claim7.holds Tryz.pinned (.plain (OpenSpec.upto lexWrittenSpec)) lexWrittenUptoCard
end Rows
end Go.Proofs.YtejppikbdplamaaGreatDoor
