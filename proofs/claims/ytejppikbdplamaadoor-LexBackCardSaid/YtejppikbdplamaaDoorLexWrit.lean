/-
  The walks of the document's own written tokens.
-/
import Derived.Test.YtejppikbdplamaaDoorLexLine
import Derived.Deep.RegionWith
namespace Go.Proofs.YtejppikbdplamaaDoor.Lex
open Go.RowKit
open Base Runes
set_option linter.unusedVariables false
set_option linter.unusedSimpArgs false

def digF : Nat → Nat → List UInt8
  | 0, _ => []
  | f + 1, n => if n < 10 then [UInt8.ofNat (48 + n)] else digF f (n / 10) ++ [UInt8.ofNat (48 + n % 10)]
def digB (n : Int) : ByteArray := if n < 0 then ⟨#[]⟩ else ⟨(digF 20 n.toNat).toArray⟩
theorem digF_length (f n : Nat) : (digF f n).length ≤ f := by
  induction f generalizing n with
  | zero => simp [digF]
  | succ f ih =>
    rw [digF]
    split
    · simp
    · have := ih (n / 10); simp; omega

set_option maxRecDepth 100000 in
theorem one_conv {w : World} {g : Nat} {c : UInt8} (h : w.cell? ⟨g, 0, none⟩ = some (.int .u8 (c.toNat : Int))) : (convert 53 9 (.slice (some ⟨g, 0, none⟩) 1 1)).run Tryd.prog w = .ok (.string ⟨#[c]⟩) w := by
  have h1 := run_convert_bytes_arg (P := Tryd.prog) w 53 5 Tryd.underlying53 Tryd.underlying5 g 0 1 1 [(c.toNat : Int)] rfl (fun i hi => by
    have : i = 0 := by omega
    subst this; simpa using h) 9 Tryd.underlying9
  rw [h1]
  congr 2
  unfold strOfNums
  simp

/-! A token as it would be written; whether it may be. -/

def wrB (t : Tok) : ByteArray := if t.1 = 2 then digB t.2.2.1 else if t.1 = 4 then qtS t.2.1 else t.2.1
def chE (t : Tok) : Int :=
  if (tkA (wrB t)).2.2 = 0 then
    match (tkA (wrB t)).1 with
    | [x] => if x.1 = t.1 ∧ x.2.1 = t.2.1 ∧ x.2.2.1 = t.2.2.1 then 0 else 50
    | _ => 50
  else 50
def txS (t : Tok) : ByteArray := if chE t = 0 then wrB t else ⟨#[]⟩
theorem chE_or (t : Tok) : chE t = 0 ∨ chE t = 50 := by
  unfold chE
  split
  · split
    · split
      · exact .inl rfl
      · exact .inr rfl
    · exact .inr rfl
  · exact .inr rfl

end Go.Proofs.YtejppikbdplamaaDoor.Lex
