/-
  The walks of the document's own Check, Text and Join.
-/
import Derived.Test.YtejppikbdplamaaDoorLexWrit
namespace Go.Proofs.YtejppikbdplamaaDoor.Lex
open Go.RowKit
open Base Runes
set_option linter.unusedVariables false
set_option linter.unusedSimpArgs false

theorem digB_size (n : Int) : (digB n).size ≤ 20 := by
  unfold digB; split
  · exact Nat.zero_le _
  · rw [Lib.size_eq, ofList_data]; exact digF_length _ _
theorem qtS_size2 (s : ByteArray) : (qtS s).size ≤ 2 * s.size + 2 := by
  unfold qtS; split
  · rw [Lib.size_eq, ofList_data, Lib.size_eq]
    unfold qt
    have := mk_length s.data.toList
    rw [List.length_cons, List.length_append, List.length_singleton]; omega
  · exact Nat.zero_le _
theorem wrB_size (t : Tok) : (wrB t).size ≤ 2 * t.2.1.size + 20 := by
  unfold wrB; split
  · have := digB_size t.2.2.1; omega
  · split
    · have := qtS_size2 t.2.1; omega
    · omega

theorem txS_yes {t : Tok} (h : chE t = 0) : wrB t = txS t := by unfold txS; rw [if_pos h]
theorem txS_no {t : Tok} (h : chE t = 50) : ⟨#[]⟩ = txS t := by unfold txS; rw [if_neg (by omega)]

/-! Tokens joined. -/

def jnF : List Tok → ByteArray → Bool → ByteArray × Int
  | [], out, _ => if 400 < out.size then (⟨#[]⟩, 3) else (out, 0)
  | t :: l, out, first => if chE t = 0 then jnF l ((if first = true then out else out ++ ⟨#[32]⟩) ++ wrB t) false else (⟨#[]⟩, 50)
def jn (l : List Tok) : ByteArray × Int := jnF l ⟨#[]⟩ true

end Go.Proofs.YtejppikbdplamaaDoor.Lex
