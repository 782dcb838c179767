/-
  Tokens as data: their cells; the same tokens or not.
-/
import Derived.Test.YtejppikbdplamaaGreatDoorStructRows
import Derived.BigQuiet
import Derived.Test.YtejppikbdplamaaGreatDoorRunesRef2
namespace Go.Proofs.YtejppikbdplamaaGreatDoor.Lex
open Go.RowKit
open Base Runes
set_option linter.unusedVariables false

/-- A token: kind, text, number, place. -/
abbrev Tok := Int × ByteArray × Int × Int
def tkC (t : Tok) : List Value := [.int .i64 t.1, .string t.2.1, .int .i64 t.2.2.1, .int .i64 t.2.2.2]
theorem tkC_length (t : Tok) : (tkC t).length = 4 := rfl

def eqT (p : Bool) (x y : Tok) : Bool := decide (x.1 = y.1 ∧ x.2.1 = y.2.1 ∧ x.2.2.1 = y.2.2.1 ∧ (p = true → x.2.2.2 = y.2.2.2))
def sameT (p : Bool) : List Tok → List Tok → Bool
  | [], [] => true
  | x :: s, y :: t => eqT p x y && sameT p s t
  | _, _ => false

theorem sameT_refl (p : Bool) (l : List Tok) : sameT p l l = true := by
  induction l with
  | nil => rfl
  | cons x t ih => rw [sameT, ih]; simp [eqT]
theorem sameT_length {p : Bool} {a b : List Tok} (h : sameT p a b = true) : a.length = b.length := by
  induction a generalizing b with
  | nil => cases b with
    | nil => rfl
    | cons y t => simp [sameT] at h
  | cons x s ih => cases b with
    | nil => simp [sameT] at h
    | cons y t => rw [sameT, Bool.and_eq_true] at h; simp [ih h.2]

/-- The cells of one token of a slice. -/
theorem tok_cells {w : World} {a : Option Addr} {zs : List Tok} (h : ReadsS 4 tkC w a zs) {j : Nat} (hj : j < zs.length) :
    ∃ b off, a = some ⟨b, off, none⟩ ∧ w.cell? ⟨b, off + j * 4, none⟩ = some (.int .i64 zs[j].1) ∧ w.cell? ⟨b, off + j * 4 + 1, none⟩ = some (.string zs[j].2.1) ∧
      w.cell? ⟨b, off + j * 4 + 2, none⟩ = some (.int .i64 zs[j].2.2.1) ∧ w.cell? ⟨b, off + j * 4 + 3, none⟩ = some (.int .i64 zs[j].2.2.2) := by
  obtain ⟨b, off, ha, hc⟩ := h.at_ hj
  exact ⟨b, off, ha, hc 0 (by decide), hc 1 (by decide), hc 2 (by decide), hc 3 (by decide)⟩

end Go.Proofs.YtejppikbdplamaaGreatDoor.Lex
