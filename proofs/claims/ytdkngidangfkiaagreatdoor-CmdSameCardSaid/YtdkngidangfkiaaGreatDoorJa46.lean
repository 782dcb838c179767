/-
  Joined out of: The walks of the document's own Check.
-/
import Derived.Test.YtdkngidangfkiaaGreatDoorJa09
namespace Go.Proofs.YtdkngidangfkiaaGreatDoor.Shape
open Go.RowKit
open Base
set_option linter.unusedVariables false
set_option linter.unusedSimpArgs false
theorem SBox.drewN {W : World} {B : Nat} {k mn mx wl : Int} {sl : Value} (h : SBox W B k sl mn mx wl) (n : Nat) : SBox (W.drewN n) B k sl mn mx wl := h
end Go.Proofs.YtdkngidangfkiaaGreatDoor.Shape
