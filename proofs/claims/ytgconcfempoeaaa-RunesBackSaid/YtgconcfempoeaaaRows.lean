/-
  No cell of these rows narrows 'for every input' (looked for: loops, veiled, ifaces, maps, wideKeys, modest, calm, conditions, laid).
  DERIVED. THE GIVEN ROWS OF THIS SEAT. 5 by the template 'for every input the law returns true; each argument reads behind the call as it read before'; 0 by the template 'total and deterministic' (their statements: YtgconcfempoeaaaTotals.lean).
  GIVEN WITH THE SEED: the statements are not yours to turn. If you find one false, say at which input.
  Laid BY PROGRAM, IN A SANDBOX (cutbox-rows.mjs): the forced cells as the released guide's own fill.sh prints them over the translation 0a22a385ab8f26fb… (all of the seat's roots in one cut). By AI agents, Wed Nov 11 2026. No macro, syntax, notation, axiom, sorry.
-/
import Derived.Test.YtgconcfempoeaaaChecked
import GoSem.Claim
import GoSem.ClaimJoined
import GoSem.ClaimMapViews
import Derived.JoinedTies
import Derived.KernelRfl
namespace Go.Proofs.Ytgconcfempoeaaa
/- THE CELL 'sum', in the pinned program and in every row, IS THE sha256 OF THE DUMP (.gsa) THAT YtgconcfempoeaaaProg.lean LOADS. Nothing in Lean hashes anything: it is a label: what it is worth is what the hold of that sum in a sandbox is worth. -/
noncomputable def Try.pinned : Pinned := { name := "ytgconcfempoeaaa", sum := "0a22a385ab8f26fbf6159aecb638c676497efaf9e0414fb9c91a0aa503ccd4af", checked := Try.checked }
namespace Rows
def none {H : Type} : Left H := { results := [], args := [] }

/-- 'musterlaw04.RunesClass': WHATEVER THE INPUT: true; the input reads as it did. -/
def runesClassSpec : ChangeSpec := { name := "runesClass", fn := fun _ => fun
  | [d] => { results := [.lit (.bool true)], args := [d] }
  | _ => none }
def runesClassRow : OpenClaim := { program := "ytgconcfempoeaaa", sum := "0a22a385ab8f26fbf6159aecb638c676497efaf9e0414fb9c91a0aa503ccd4af", func := "muster/musterlaw04.RunesClass", spec := "runesClass", inPlace := ["internal/abi.NoEscape"], apart := false }
def RunesClassSaid : Prop := runesClassRow.holds Try.pinned (OpenSpec.ofChange runesClassSpec)

/-- ITS FALSE NEIGHBOUR: 'it returns false'. Refute it at one input. -/
def runesClassWrong : ChangeSpec := { name := "runesClass", fn := fun _ => fun
  | [d] => { results := [.lit (.bool false)], args := [d] }
  | _ => none }
def RunesClassWrongFalsely : Prop := runesClassRow.holds Try.pinned (OpenSpec.ofChange runesClassWrong)

/-- 'musterlaw04.RunesChecks': WHATEVER THE INPUT: true; the input reads as it did. -/
def runesChecksSpec : ChangeSpec := { name := "runesChecks", fn := fun _ => fun
  | [d1, d2] => { results := [.lit (.bool true)], args := [d1, d2] }
  | _ => none }
def runesChecksRow : OpenClaim := { program := "ytgconcfempoeaaa", sum := "0a22a385ab8f26fbf6159aecb638c676497efaf9e0414fb9c91a0aa503ccd4af", func := "muster/musterlaw04.RunesChecks", spec := "runesChecks", inPlace := ["internal/abi.NoEscape"], apart := false }
def RunesChecksSaid : Prop := runesChecksRow.holds Try.pinned (OpenSpec.ofChange runesChecksSpec)

/-- ITS FALSE NEIGHBOUR: 'it returns false'. Refute it at one input. -/
def runesChecksWrong : ChangeSpec := { name := "runesChecks", fn := fun _ => fun
  | [d1, d2] => { results := [.lit (.bool false)], args := [d1, d2] }
  | _ => none }
def RunesChecksWrongFalsely : Prop := runesChecksRow.holds Try.pinned (OpenSpec.ofChange runesChecksWrong)

/-- 'musterlaw04.RunesQuotes': WHATEVER THE INPUT: true; the input reads as it did. -/
def runesQuotesSpec : ChangeSpec := { name := "runesQuotes", fn := fun _ => fun
  | [d] => { results := [.lit (.bool true)], args := [d] }
  | _ => none }
def runesQuotesRow : OpenClaim := { program := "ytgconcfempoeaaa", sum := "0a22a385ab8f26fbf6159aecb638c676497efaf9e0414fb9c91a0aa503ccd4af", func := "muster/musterlaw04.RunesQuotes", spec := "runesQuotes", inPlace := ["internal/abi.NoEscape"], apart := false }
def RunesQuotesSaid : Prop := runesQuotesRow.holds Try.pinned (OpenSpec.ofChange runesQuotesSpec)

/-- ITS FALSE NEIGHBOUR: 'it returns false'. Refute it at one input. -/
def runesQuotesWrong : ChangeSpec := { name := "runesQuotes", fn := fun _ => fun
  | [d] => { results := [.lit (.bool false)], args := [d] }
  | _ => none }
def RunesQuotesWrongFalsely : Prop := runesQuotesRow.holds Try.pinned (OpenSpec.ofChange runesQuotesWrong)

/-- 'musterlaw04.RunesBack': WHATEVER THE INPUT: true; the input reads as it did. -/
def runesBackSpec : ChangeSpec := { name := "runesBack", fn := fun _ => fun
  | [d] => { results := [.lit (.bool true)], args := [d] }
  | _ => none }
def runesBackRow : OpenClaim := { program := "ytgconcfempoeaaa", sum := "0a22a385ab8f26fbf6159aecb638c676497efaf9e0414fb9c91a0aa503ccd4af", func := "muster/musterlaw04.RunesBack", spec := "runesBack", inPlace := ["internal/abi.NoEscape"], apart := false }
def RunesBackSaid : Prop := runesBackRow.holds Try.pinned (OpenSpec.ofChange runesBackSpec)

/-- ITS FALSE NEIGHBOUR: 'it returns false'. Refute it at one input. -/
def runesBackWrong : ChangeSpec := { name := "runesBack", fn := fun _ => fun
  | [d] => { results := [.lit (.bool false)], args := [d] }
  | _ => none }
def RunesBackWrongFalsely : Prop := runesBackRow.holds Try.pinned (OpenSpec.ofChange runesBackWrong)

/-- 'musterlaw04.RunesCount': WHATEVER THE INPUT: true; the input reads as it did. -/
def runesCountSpec : ChangeSpec := { name := "runesCount", fn := fun _ => fun
  | [d1, d2] => { results := [.lit (.bool true)], args := [d1, d2] }
  | _ => none }
def runesCountRow : OpenClaim := { program := "ytgconcfempoeaaa", sum := "0a22a385ab8f26fbf6159aecb638c676497efaf9e0414fb9c91a0aa503ccd4af", func := "muster/musterlaw04.RunesCount", spec := "runesCount", inPlace := ["internal/abi.NoEscape"], apart := false }
def RunesCountSaid : Prop := runesCountRow.holds Try.pinned (OpenSpec.ofChange runesCountSpec)

/-- ITS FALSE NEIGHBOUR: 'it returns false'. Refute it at one input. -/
def runesCountWrong : ChangeSpec := { name := "runesCount", fn := fun _ => fun
  | [d1, d2] => { results := [.lit (.bool false)], args := [d1, d2] }
  | _ => none }
def RunesCountWrongFalsely : Prop := runesCountRow.holds Try.pinned (OpenSpec.ofChange runesCountWrong)

/- THE SECOND FORM. 'bulk': how many values and letters a reading holds, each counted each time it is reached (what is shared counts as often as it is met; a slice's spare places count too). A statement '..UptoSaid' is the law's where the arguments, and the package variables that the reading takes, are together of bulk at most 1048576: NARROWER than '..Said'. Prove '..Said' where nothing that the law and all that it calls make is longer than what came in: it says more and counts as full. Else prove '..UptoSaid'. A law counts once. -/
mutual
def uptoBulk {H : Type} : DataW H → Nat
  | .lit (.string bytes) => bytes.length + 1
  | .lit _ => 1
  | .nil => 1
  | .ptr d => uptoBulk d + 1
  | .slice elems spare => uptoBulkAll elems + uptoBulkAll spare + 1
  | .agg parts => uptoBulkAll parts + 1
  | .iface _ d => uptoBulk d + 1
  | .map entries => uptoBulkEntries entries + 1
  | .held _ => 1
def uptoBulkAll {H : Type} : List (DataW H) → Nat
  | [] => 0
  | d :: r => uptoBulk d + uptoBulkAll r
def uptoBulkEntries {H : Type} : List (Lit × DataW H) → Nat
  | [] => 0
  | x :: r => uptoBulkEntry x + uptoBulkEntries r
def uptoBulkEntry {H : Type} : Lit × DataW H → Nat
  | (.string bytes, d) => bytes.length + uptoBulk d + 1
  | (_, d) => uptoBulk d + 1
 end
def uptoSmall : (H : Type) → List (DataW H) → Bool := fun _ ds => decide (uptoBulkAll ds ≤ 1048576)
def OpenSpec.upto (s : _root_.Go.ChangeSpec) : _root_.Go.OpenSpec := { _root_.Go.OpenSpec.ofChange s with cond := some uptoSmall }

/-- 'musterlaw04.RunesClass', WHERE WHAT IT READS IS OF BULK AT MOST 1048576: true; the input reads as it did. -/
def runesClassUptoRow : OpenClaim := { program := "ytgconcfempoeaaa", sum := "0a22a385ab8f26fbf6159aecb638c676497efaf9e0414fb9c91a0aa503ccd4af", func := "muster/musterlaw04.RunesClass", spec := "runesClass", inPlace := ["internal/abi.NoEscape"], apart := false, narrowed := true }
def RunesClassUptoSaid : Prop := runesClassUptoRow.holds Try.pinned (OpenSpec.upto runesClassSpec)

/-- 'musterlaw04.RunesChecks', WHERE WHAT IT READS IS OF BULK AT MOST 1048576: true; the input reads as it did. -/
def runesChecksUptoRow : OpenClaim := { program := "ytgconcfempoeaaa", sum := "0a22a385ab8f26fbf6159aecb638c676497efaf9e0414fb9c91a0aa503ccd4af", func := "muster/musterlaw04.RunesChecks", spec := "runesChecks", inPlace := ["internal/abi.NoEscape"], apart := false, narrowed := true }
def RunesChecksUptoSaid : Prop := runesChecksUptoRow.holds Try.pinned (OpenSpec.upto runesChecksSpec)

/-- 'musterlaw04.RunesQuotes', WHERE WHAT IT READS IS OF BULK AT MOST 1048576: true; the input reads as it did. -/
def runesQuotesUptoRow : OpenClaim := { program := "ytgconcfempoeaaa", sum := "0a22a385ab8f26fbf6159aecb638c676497efaf9e0414fb9c91a0aa503ccd4af", func := "muster/musterlaw04.RunesQuotes", spec := "runesQuotes", inPlace := ["internal/abi.NoEscape"], apart := false, narrowed := true }
def RunesQuotesUptoSaid : Prop := runesQuotesUptoRow.holds Try.pinned (OpenSpec.upto runesQuotesSpec)

/-- 'musterlaw04.RunesBack', WHERE WHAT IT READS IS OF BULK AT MOST 1048576: true; the input reads as it did. -/
def runesBackUptoRow : OpenClaim := { program := "ytgconcfempoeaaa", sum := "0a22a385ab8f26fbf6159aecb638c676497efaf9e0414fb9c91a0aa503ccd4af", func := "muster/musterlaw04.RunesBack", spec := "runesBack", inPlace := ["internal/abi.NoEscape"], apart := false, narrowed := true }
def RunesBackUptoSaid : Prop := runesBackUptoRow.holds Try.pinned (OpenSpec.upto runesBackSpec)

/-- 'musterlaw04.RunesCount', WHERE WHAT IT READS IS OF BULK AT MOST 1048576: true; the input reads as it did. -/
def runesCountUptoRow : OpenClaim := { program := "ytgconcfempoeaaa", sum := "0a22a385ab8f26fbf6159aecb638c676497efaf9e0414fb9c91a0aa503ccd4af", func := "muster/musterlaw04.RunesCount", spec := "runesCount", inPlace := ["internal/abi.NoEscape"], apart := false, narrowed := true }
def RunesCountUptoSaid : Prop := runesCountUptoRow.holds Try.pinned (OpenSpec.upto runesCountSpec)

end Rows
end Go.Proofs.Ytgconcfempoeaaa
