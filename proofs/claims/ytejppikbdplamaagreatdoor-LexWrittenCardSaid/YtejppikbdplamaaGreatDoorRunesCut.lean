/-
  The walks of layer 4's cutting.
-/
import Derived.Test.YtejppikbdplamaaGreatDoorRunesLook
import Derived.Deep.RegionWith
import Derived.BigQuiet
namespace Go.Proofs.YtejppikbdplamaaGreatDoor.Runes
open Go.RowKit
open Base Bld
set_option linter.unusedVariables false

/-- Behind so many runes. -/
def cuP (s : ByteArray) (n : Int) : Nat := plc n.toNat (ps s 0)
def cuK (s : ByteArray) (n : Int) : Bool := decide (0 ≤ n ∧ n ≤ (cn s : Int))
def cuA (s : ByteArray) (n : Int) : ByteArray := if cuK s n = true then s.extract 0 (cuP s n) else ⟨#[]⟩
def cuB (s : ByteArray) (n : Int) : ByteArray := if cuK s n = true then s.extract (cuP s n) s.size else ⟨#[]⟩

theorem cu_no {s : ByteArray} {n : Int} (h : cuK s n = false) : ⟨#[]⟩ = cuA s n ∧ ⟨#[]⟩ = cuB s n ∧ false = cuK s n := by
  unfold cuA cuB; rw [h]; exact ⟨rfl, rfl, rfl⟩
theorem cu_yes {s : ByteArray} {n : Int} {p : Nat} (h : cuK s n = true) (hp : p = cuP s n) : s.extract 0 p = cuA s n ∧ s.extract p s.size = cuB s n ∧ true = cuK s n := by
  unfold cuA cuB; rw [h, hp]; exact ⟨rfl, rfl, rfl⟩
theorem cuP_le (s : ByteArray) (n : Int) : cuP s n ≤ s.size := by
  have h := plc_le n.toNat (ps s 0)
  unfold cuP
  rw [ps_zero, pc_bytes, ← Lib.size_eq] at *
  exact h
theorem extract_whole (s : ByteArray) : s.extract 0 s.size = s := by
  apply ByteArray.ext; rw [ByteArray.data_extract]; exact Array.extract_size
theorem extract_none (s : ByteArray) : s.extract s.size s.size = ⟨#[]⟩ := by
  have h : (s.extract s.size s.size).size = 0 := by rw [ByteArray.size_extract]; omega
  apply ByteArray.ext; exact Array.eq_empty_of_size_eq_zero h
theorem ret_ssb {a a' b b' : ByteArray} {c c' : Bool} (h : a = a') (h1 : b = b') (h2 : c = c') : Ending.returned (.tuple #[.string a, .string b, .bool c]) = .returned (.tuple #[.string a', .string b', .bool c']) := by rw [h, h1, h2]
theorem extract_size_le (s : ByteArray) (i j : Nat) : (s.extract i j).size ≤ s.size := by rw [ByteArray.size_extract]; omega

end Go.Proofs.YtejppikbdplamaaGreatDoor.Runes
