/-
  DERIVED. GIVEN WITH THE SEED: THE CARDS: each row of YtgneleembnchfaaDoorRows.lean that lists a variable, with what it lists TIED to the program's text (the seventh form; the later family's looks); each row that meets fmt, with fmt's text TOLD by the authors' own Lean function (tested against real Go, not proved from fmt's source: count such statements apart). THE CARD IS WHAT COUNTS. Prove the row's statement (the work); the ties are given (YtgneleembnchfaaDoorTie.lean); close each card by the builder's one call (the guide's Derived/Test/ToyasCard.lean, 'card_holds'). Laid BY PROGRAM, IN A SANDBOX (cutbox-door.mjs). By AI agents, Wed Nov 11 2026. No macro, syntax, notation, axiom, sorry.
-/
import Derived.Test.YtgneleembnchfaaDoorRows
import GoSem.ClaimSeven
namespace Go.Proofs.YtgneleembnchfaaDoor
namespace Rows

/-- THE TIED CARD OF 'musterlaw09.NodesetOf'. -/
def nodesetOfCard : Claim7 := { stood := { row := nodesetOfRow, standIns := [], harness := (true, "6369996830355ed5e10e48e48c716edf424249c53628fbbe1a4e75385ca9a857"), looks := true }, kinds := [], alts := [], laidByText := true, laidKinds := [.data, .data, .data, .sentinel, .sentinel], laidTests := true, laidLooks := .later }
def NodesetOfCardSaid : Prop := Claim7.holds Tryd.pinned (.plain (OpenSpec.ofChange nodesetOfSpec)) nodesetOfCard

/-- THE TIED CARD OF 'musterlaw09.NodesetEnds'. -/
def nodesetEndsCard : Claim7 := { stood := { row := nodesetEndsRow, standIns := [], harness := (true, "6369996830355ed5e10e48e48c716edf424249c53628fbbe1a4e75385ca9a857"), looks := true }, kinds := [], alts := [], laidByText := true, laidKinds := [.data, .data, .data, .sentinel, .sentinel], laidTests := true, laidLooks := .later }
def NodesetEndsCardSaid : Prop := Claim7.holds Tryd.pinned (.plain (OpenSpec.ofChange nodesetEndsSpec)) nodesetEndsCard

/-- THE TIED CARD OF 'musterlaw09.NodesetTexts'. -/
def nodesetTextsCard : Claim7 := { stood := { row := nodesetTextsRow, standIns := [], harness := (true, "6369996830355ed5e10e48e48c716edf424249c53628fbbe1a4e75385ca9a857"), looks := true }, kinds := [], alts := [], laidByText := true, laidKinds := [.data, .data, .data, .sentinel, .sentinel], laidTests := true, laidLooks := .later }
def NodesetTextsCardSaid : Prop := Claim7.holds Tryd.pinned (.plain (OpenSpec.ofChange nodesetTextsSpec)) nodesetTextsCard

/-- THE TIED CARD OF 'musterlaw09.NodesetBack'. -/
def nodesetBackCard : Claim7 := { stood := { row := nodesetBackRow, standIns := [], harness := (true, "6369996830355ed5e10e48e48c716edf424249c53628fbbe1a4e75385ca9a857"), looks := true }, kinds := [], alts := [], laidByText := true, laidKinds := [.data, .data, .data, .sentinel, .sentinel], laidTests := true, laidLooks := .later }
def NodesetBackCardSaid : Prop := Claim7.holds Tryd.pinned (.plain (OpenSpec.ofChange nodesetBackSpec)) nodesetBackCard

/-- THE TIED CARD OF 'musterlaw09.NodesetParts'. -/
def nodesetPartsCard : Claim7 := { stood := { row := nodesetPartsRow, standIns := [], harness := (true, "6369996830355ed5e10e48e48c716edf424249c53628fbbe1a4e75385ca9a857"), looks := true }, kinds := [], alts := [], laidByText := true, laidKinds := [.data, .data, .data, .sentinel, .sentinel], laidTests := true, laidLooks := .later }
def NodesetPartsCardSaid : Prop := Claim7.holds Tryd.pinned (.plain (OpenSpec.ofChange nodesetPartsSpec)) nodesetPartsCard

/-- THE SECOND FORM's CARD OF 'musterlaw09.NodesetOf'. -/
def nodesetOfUptoCard : Claim7 := { stood := { row := nodesetOfUptoRow, standIns := [], harness := (true, "6369996830355ed5e10e48e48c716edf424249c53628fbbe1a4e75385ca9a857"), looks := true }, kinds := [], alts := [], laidByText := true, laidKinds := [.data, .data, .data, .sentinel, .sentinel], laidTests := true, laidLooks := .later }
def NodesetOfUptoCardSaid : Prop := Claim7.holds Tryd.pinned (.plain (OpenSpec.upto nodesetOfSpec)) nodesetOfUptoCard

/-- THE SECOND FORM's CARD OF 'musterlaw09.NodesetEnds'. -/
def nodesetEndsUptoCard : Claim7 := { stood := { row := nodesetEndsUptoRow, standIns := [], harness := (true, "6369996830355ed5e10e48e48c716edf424249c53628fbbe1a4e75385ca9a857"), looks := true }, kinds := [], alts := [], laidByText := true, laidKinds := [.data, .data, .data, .sentinel, .sentinel], laidTests := true, laidLooks := .later }
def NodesetEndsUptoCardSaid : Prop := Claim7.holds Tryd.pinned (.plain (OpenSpec.upto nodesetEndsSpec)) nodesetEndsUptoCard

/-- THE SECOND FORM's CARD OF 'musterlaw09.NodesetTexts'. -/
def nodesetTextsUptoCard : Claim7 := { stood := { row := nodesetTextsUptoRow, standIns := [], harness := (true, "6369996830355ed5e10e48e48c716edf424249c53628fbbe1a4e75385ca9a857"), looks := true }, kinds := [], alts := [], laidByText := true, laidKinds := [.data, .data, .data, .sentinel, .sentinel], laidTests := true, laidLooks := .later }
def NodesetTextsUptoCardSaid : Prop := Claim7.holds Tryd.pinned (.plain (OpenSpec.upto nodesetTextsSpec)) nodesetTextsUptoCard

/-- THE SECOND FORM's CARD OF 'musterlaw09.NodesetBack'. -/
def nodesetBackUptoCard : Claim7 := { stood := { row := nodesetBackUptoRow, standIns := [], harness := (true, "6369996830355ed5e10e48e48c716edf424249c53628fbbe1a4e75385ca9a857"), looks := true }, kinds := [], alts := [], laidByText := true, laidKinds := [.data, .data, .data, .sentinel, .sentinel], laidTests := true, laidLooks := .later }
def NodesetBackUptoCardSaid : Prop := Claim7.holds Tryd.pinned (.plain (OpenSpec.upto nodesetBackSpec)) nodesetBackUptoCard

/-- THE SECOND FORM's CARD OF 'musterlaw09.NodesetParts'. -/
def nodesetPartsUptoCard : Claim7 := { stood := { row := nodesetPartsUptoRow, standIns := [], harness := (true, "6369996830355ed5e10e48e48c716edf424249c53628fbbe1a4e75385ca9a857"), looks := true }, kinds := [], alts := [], laidByText := true, laidKinds := [.data, .data, .data, .sentinel, .sentinel], laidTests := true, laidLooks := .later }
def NodesetPartsUptoCardSaid : Prop := Claim7.holds Tryd.pinned (.plain (OpenSpec.upto nodesetPartsSpec)) nodesetPartsUptoCard
end Rows
end Go.Proofs.YtgneleembnchfaaDoor
