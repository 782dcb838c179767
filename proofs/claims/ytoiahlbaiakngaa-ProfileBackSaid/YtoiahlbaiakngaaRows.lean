/-
  No cell of these rows narrows 'for every input' (looked for: loops, veiled, ifaces, maps, wideKeys, modest, calm, conditions, laid).
  DERIVED. THE GIVEN ROWS OF THIS SEAT. 5 by the template 'for every input the law returns true; each argument reads behind the call as it read before'; 0 by the template 'total and deterministic' (their statements: YtoiahlbaiakngaaTotals.lean).
  GIVEN WITH THE SEED: the statements are not yours to turn. If you find one false, say at which input.
  Laid BY PROGRAM, IN A SANDBOX (cutbox-rows.mjs): the forced cells as the released guide's own fill.sh prints them over the translation 94e3b81e8ff5c799… (all of the seat's roots in one cut). By AI agents, Wed Nov 11 2026. No macro, syntax, notation, axiom, sorry.
-/
import Derived.Test.YtoiahlbaiakngaaChecked
import GoSem.Claim
import GoSem.ClaimJoined
import GoSem.ClaimMapViews
import Derived.JoinedTies
import Derived.KernelRfl
namespace Go.Proofs.Ytoiahlbaiakngaa
/- THE CELL 'sum', in the pinned program and in every row, IS THE sha256 OF THE DUMP (.gsa) THAT YtoiahlbaiakngaaProg.lean LOADS. Nothing in Lean hashes anything: it is a label: what it is worth is what the hold of that sum in a sandbox is worth. -/
noncomputable def Try.pinned : Pinned := { name := "ytoiahlbaiakngaa", sum := "94e3b81e8ff5c79916ebe96b04d8ee5f8c3c3aa82ff7c4b44a44cbd58d0915c1", checked := Try.checked }
namespace Rows
def none {H : Type} : Left H := { results := [], args := [] }

/-- 'musterlaw10.ProfileLooks': WHATEVER THE INPUT: true; the input reads as it did. -/
def profileLooksSpec : ChangeSpec := { name := "profileLooks", fn := fun _ => fun
  | [d1, d2, d3] => { results := [.lit (.bool true)], args := [d1, d2, d3] }
  | _ => none }
def profileLooksRow : OpenClaim := { program := "ytoiahlbaiakngaa", sum := "94e3b81e8ff5c79916ebe96b04d8ee5f8c3c3aa82ff7c4b44a44cbd58d0915c1", func := "muster/musterlaw10.ProfileLooks", spec := "profileLooks", unfollowed := true, recurses := true, apart := false }
def ProfileLooksSaid : Prop := profileLooksRow.holds Try.pinned (OpenSpec.ofChange profileLooksSpec)

/-- ITS FALSE NEIGHBOUR: 'it returns false'. Refute it at one input. -/
def profileLooksWrong : ChangeSpec := { name := "profileLooks", fn := fun _ => fun
  | [d1, d2, d3] => { results := [.lit (.bool false)], args := [d1, d2, d3] }
  | _ => none }
def ProfileLooksWrongFalsely : Prop := profileLooksRow.holds Try.pinned (OpenSpec.ofChange profileLooksWrong)

/-- 'musterlaw10.ProfileAdds': WHATEVER THE INPUT: true; the input reads as it did. -/
def profileAddsSpec : ChangeSpec := { name := "profileAdds", fn := fun _ => fun
  | [d1, d2, d3] => { results := [.lit (.bool true)], args := [d1, d2, d3] }
  | _ => none }
def profileAddsRow : OpenClaim := { program := "ytoiahlbaiakngaa", sum := "94e3b81e8ff5c79916ebe96b04d8ee5f8c3c3aa82ff7c4b44a44cbd58d0915c1", func := "muster/musterlaw10.ProfileAdds", spec := "profileAdds", unfollowed := true, recurses := true, apart := false }
def ProfileAddsSaid : Prop := profileAddsRow.holds Try.pinned (OpenSpec.ofChange profileAddsSpec)

/-- ITS FALSE NEIGHBOUR: 'it returns false'. Refute it at one input. -/
def profileAddsWrong : ChangeSpec := { name := "profileAdds", fn := fun _ => fun
  | [d1, d2, d3] => { results := [.lit (.bool false)], args := [d1, d2, d3] }
  | _ => none }
def ProfileAddsWrongFalsely : Prop := profileAddsRow.holds Try.pinned (OpenSpec.ofChange profileAddsWrong)

/-- 'musterlaw10.ProfileOrder': WHATEVER THE INPUT: true; the input reads as it did. -/
def profileOrderSpec : ChangeSpec := { name := "profileOrder", fn := fun _ => fun
  | [d1, d2, d3] => { results := [.lit (.bool true)], args := [d1, d2, d3] }
  | _ => none }
def profileOrderRow : OpenClaim := { program := "ytoiahlbaiakngaa", sum := "94e3b81e8ff5c79916ebe96b04d8ee5f8c3c3aa82ff7c4b44a44cbd58d0915c1", func := "muster/musterlaw10.ProfileOrder", spec := "profileOrder", unfollowed := true, recurses := true, apart := false }
def ProfileOrderSaid : Prop := profileOrderRow.holds Try.pinned (OpenSpec.ofChange profileOrderSpec)

/-- ITS FALSE NEIGHBOUR: 'it returns false'. Refute it at one input. -/
def profileOrderWrong : ChangeSpec := { name := "profileOrder", fn := fun _ => fun
  | [d1, d2, d3] => { results := [.lit (.bool false)], args := [d1, d2, d3] }
  | _ => none }
def ProfileOrderWrongFalsely : Prop := profileOrderRow.holds Try.pinned (OpenSpec.ofChange profileOrderWrong)

/-- 'musterlaw10.ProfileBack': WHATEVER THE INPUT: true; the input reads as it did. -/
def profileBackSpec : ChangeSpec := { name := "profileBack", fn := fun _ => fun
  | [d1, d2, d3] => { results := [.lit (.bool true)], args := [d1, d2, d3] }
  | _ => none }
def profileBackRow : OpenClaim := { program := "ytoiahlbaiakngaa", sum := "94e3b81e8ff5c79916ebe96b04d8ee5f8c3c3aa82ff7c4b44a44cbd58d0915c1", func := "muster/musterlaw10.ProfileBack", spec := "profileBack", unfollowed := true, recurses := true, apart := false }
def ProfileBackSaid : Prop := profileBackRow.holds Try.pinned (OpenSpec.ofChange profileBackSpec)

/-- ITS FALSE NEIGHBOUR: 'it returns false'. Refute it at one input. -/
def profileBackWrong : ChangeSpec := { name := "profileBack", fn := fun _ => fun
  | [d1, d2, d3] => { results := [.lit (.bool false)], args := [d1, d2, d3] }
  | _ => none }
def ProfileBackWrongFalsely : Prop := profileBackRow.holds Try.pinned (OpenSpec.ofChange profileBackWrong)

/-- 'musterlaw10.ProfileLeast': WHATEVER THE INPUT: true; the input reads as it did. -/
def profileLeastSpec : ChangeSpec := { name := "profileLeast", fn := fun _ => fun
  | [d1, d2, d3] => { results := [.lit (.bool true)], args := [d1, d2, d3] }
  | _ => none }
def profileLeastRow : OpenClaim := { program := "ytoiahlbaiakngaa", sum := "94e3b81e8ff5c79916ebe96b04d8ee5f8c3c3aa82ff7c4b44a44cbd58d0915c1", func := "muster/musterlaw10.ProfileLeast", spec := "profileLeast", unfollowed := true, recurses := true, apart := false }
def ProfileLeastSaid : Prop := profileLeastRow.holds Try.pinned (OpenSpec.ofChange profileLeastSpec)

/-- ITS FALSE NEIGHBOUR: 'it returns false'. Refute it at one input. -/
def profileLeastWrong : ChangeSpec := { name := "profileLeast", fn := fun _ => fun
  | [d1, d2, d3] => { results := [.lit (.bool false)], args := [d1, d2, d3] }
  | _ => none }
def ProfileLeastWrongFalsely : Prop := profileLeastRow.holds Try.pinned (OpenSpec.ofChange profileLeastWrong)

/- THE SECOND FORM. 'bulk': how many values and letters a reading holds, each counted each time it is reached (what is shared counts as often as it is met; a slice's spare places count too). A statement '..UptoSaid' is the law's where the arguments, and the package variables that the reading takes, are together of bulk at most 1048576: NARROWER than '..Said'. Prove '..Said' where nothing that the law and all that it calls make is longer than what came in: it says more and counts as full. Else prove '..UptoSaid'. A law counts once. -/
mutual
def uptoBulk {H : Type} : DataW H → Nat
  | .lit (.string bytes) => bytes.length + 1
  | .lit _ => 1
  | .nil => 1
  | .ptr d => uptoBulk d + 1
  | .slice elems spare => uptoBulkAll elems + uptoBulkAll spare + 1
  | .agg parts => uptoBulkAll parts + 1
  | .iface _ d => uptoBulk d + 1
  | .map entries => uptoBulkEntries entries + 1
  | .held _ => 1
def uptoBulkAll {H : Type} : List (DataW H) → Nat
  | [] => 0
  | d :: r => uptoBulk d + uptoBulkAll r
def uptoBulkEntries {H : Type} : List (Lit × DataW H) → Nat
  | [] => 0
  | x :: r => uptoBulkEntry x + uptoBulkEntries r
def uptoBulkEntry {H : Type} : Lit × DataW H → Nat
  | (.string bytes, d) => bytes.length + uptoBulk d + 1
  | (_, d) => uptoBulk d + 1
 end
def uptoSmall : (H : Type) → List (DataW H) → Bool := fun _ ds => decide (uptoBulkAll ds ≤ 1048576)
def OpenSpec.upto (s : _root_.Go.ChangeSpec) : _root_.Go.OpenSpec := { _root_.Go.OpenSpec.ofChange s with cond := some uptoSmall }

/-- 'musterlaw10.ProfileLooks', WHERE WHAT IT READS IS OF BULK AT MOST 1048576: true; the input reads as it did. -/
def profileLooksUptoRow : OpenClaim := { program := "ytoiahlbaiakngaa", sum := "94e3b81e8ff5c79916ebe96b04d8ee5f8c3c3aa82ff7c4b44a44cbd58d0915c1", func := "muster/musterlaw10.ProfileLooks", spec := "profileLooks", unfollowed := true, recurses := true, apart := false, narrowed := true }
def ProfileLooksUptoSaid : Prop := profileLooksUptoRow.holds Try.pinned (OpenSpec.upto profileLooksSpec)

/-- 'musterlaw10.ProfileAdds', WHERE WHAT IT READS IS OF BULK AT MOST 1048576: true; the input reads as it did. -/
def profileAddsUptoRow : OpenClaim := { program := "ytoiahlbaiakngaa", sum := "94e3b81e8ff5c79916ebe96b04d8ee5f8c3c3aa82ff7c4b44a44cbd58d0915c1", func := "muster/musterlaw10.ProfileAdds", spec := "profileAdds", unfollowed := true, recurses := true, apart := false, narrowed := true }
def ProfileAddsUptoSaid : Prop := profileAddsUptoRow.holds Try.pinned (OpenSpec.upto profileAddsSpec)

/-- 'musterlaw10.ProfileOrder', WHERE WHAT IT READS IS OF BULK AT MOST 1048576: true; the input reads as it did. -/
def profileOrderUptoRow : OpenClaim := { program := "ytoiahlbaiakngaa", sum := "94e3b81e8ff5c79916ebe96b04d8ee5f8c3c3aa82ff7c4b44a44cbd58d0915c1", func := "muster/musterlaw10.ProfileOrder", spec := "profileOrder", unfollowed := true, recurses := true, apart := false, narrowed := true }
def ProfileOrderUptoSaid : Prop := profileOrderUptoRow.holds Try.pinned (OpenSpec.upto profileOrderSpec)

/-- 'musterlaw10.ProfileBack', WHERE WHAT IT READS IS OF BULK AT MOST 1048576: true; the input reads as it did. -/
def profileBackUptoRow : OpenClaim := { program := "ytoiahlbaiakngaa", sum := "94e3b81e8ff5c79916ebe96b04d8ee5f8c3c3aa82ff7c4b44a44cbd58d0915c1", func := "muster/musterlaw10.ProfileBack", spec := "profileBack", unfollowed := true, recurses := true, apart := false, narrowed := true }
def ProfileBackUptoSaid : Prop := profileBackUptoRow.holds Try.pinned (OpenSpec.upto profileBackSpec)

/-- 'musterlaw10.ProfileLeast', WHERE WHAT IT READS IS OF BULK AT MOST 1048576: true; the input reads as it did. -/
def profileLeastUptoRow : OpenClaim := { program := "ytoiahlbaiakngaa", sum := "94e3b81e8ff5c79916ebe96b04d8ee5f8c3c3aa82ff7c4b44a44cbd58d0915c1", func := "muster/musterlaw10.ProfileLeast", spec := "profileLeast", unfollowed := true, recurses := true, apart := false, narrowed := true }
def ProfileLeastUptoSaid : Prop := profileLeastUptoRow.holds Try.pinned (OpenSpec.upto profileLeastSpec)

end Rows
end Go.Proofs.Ytoiahlbaiakngaa
