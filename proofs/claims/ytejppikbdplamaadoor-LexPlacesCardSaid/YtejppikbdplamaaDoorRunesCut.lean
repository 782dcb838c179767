/-
  The walks of layer 4's cutting.
-/
import Derived.Test.YtejppikbdplamaaDoorRunesLook
import Derived.Deep.RegionWith
import Derived.BigQuiet
namespace Go.Proofs.YtejppikbdplamaaDoor.Runes
open Go.RowKit
open Base Bld
set_option linter.unusedVariables false

/-- Behind so many runes. -/
def cuP (s : ByteArray) (n : Int) : Nat := plc n.toNat (ps s 0)
def cuK (s : ByteArray) (n : Int) : Bool := decide (0 ≤ n ∧ n ≤ (cn s : Int))
def cuA (s : ByteArray) (n : Int) : ByteArray := if cuK s n = true then s.extract 0 (cuP s n) else ⟨#[]⟩
def cuB (s : ByteArray) (n : Int) : ByteArray := if cuK s n = true then s.extract (cuP s n) s.size else ⟨#[]⟩

theorem cu_no {s : ByteArray} {n : Int} (h : cuK s n = false) : ⟨#[]⟩ = cuA s n ∧ ⟨#[]⟩ = cuB s n ∧ false = cuK s n := by
  unfold cuA cuB; rw [h]; exact ⟨rfl, rfl, rfl⟩
theorem cu_yes {s : ByteArray} {n : Int} {p : Nat} (h : cuK s n = true) (hp : p = cuP s n) : s.extract 0 p = cuA s n ∧ s.extract p s.size = cuB s n ∧ true = cuK s n := by
  unfold cuA cuB; rw [h, hp]; exact ⟨rfl, rfl, rfl⟩
theorem cuP_le (s : ByteArray) (n : Int) : cuP s n ≤ s.size := by
  have h := plc_le n.toNat (ps s 0)
  unfold cuP
  rw [ps_zero, pc_bytes, ← Lib.size_eq] at *
  exact h
theorem extract_whole (s : ByteArray) : s.extract 0 s.size = s := by
  apply ByteArray.ext; rw [ByteArray.data_extract]; exact Array.extract_size
theorem extract_none (s : ByteArray) : s.extract s.size s.size = ⟨#[]⟩ := by
  have h : (s.extract s.size s.size).size = 0 := by rw [ByteArray.size_extract]; omega
  apply ByteArray.ext; exact Array.eq_empty_of_size_eq_zero h
theorem ret_ssb {a a' b b' : ByteArray} {c c' : Bool} (h : a = a') (h1 : b = b') (h2 : c = c') : Ending.returned (.tuple #[.string a, .string b, .bool c]) = .returned (.tuple #[.string a', .string b', .bool c']) := by rw [h, h1, h2]
theorem extract_size_le (s : ByteArray) (i j : Nat) : (s.extract i j).size ≤ s.size := by rw [ByteArray.size_extract]; omega

set_option maxRecDepth 100000 in
set_option maxHeartbeats 1000000 in
theorem cut_any (s : ByteArray) (hs : s.size ≤ 1000000) (n : Int) (hn63 : n ≤ 9223372036854775807) (w : World) :
    Calls Tryd.prog 13 #[.string s, .int .i64 n] w fun e w' => e = .returned (.tuple #[.string (cuA s n), .string (cuB s n), .bool (cuK s n)]) ∧ Below w.heap.size w w' := by
  by_cases hn : n < 0
  · have HN := Lib.hid (cu_no (s := s) (n := n) (by unfold cuK; rw [decide_eq_false_iff_not]; omega))
    go_enter Tryd.func13, Tryd.ntmps13
    go_wp2
    go_ret3
    exact ⟨ret_ssb HN.out.1 HN.out.2.1 HN.out.2.2, Below.refl _ _⟩
  · obtain ⟨N, rfl⟩ := Int.eq_ofNat_of_zero_le (show 0 ≤ n by omega)
    have hP : cuP s (N : Int) = plc N (ps s 0) := rfl
    have hK : cuK s (N : Int) = decide (N ≤ cn s) := by unfold cuK; rw [decide_eq_decide]; omega
    have HP := Lib.hid hP
    have HK := Lib.hid hK
    clear hP hK
    go_enter Tryd.func13, Tryd.ntmps13
    go_wp2
    go_loopw [1] (fun n wr => ∃ pos m : Nat, wr = w.iter s pos ∧ n = .int .i64 (m : Int) ∧ pos + plc m (ps s pos) = plc N (ps s 0) ∧ (m ≤ (ps s pos).length ↔ N ≤ cn s) ∧ pos ≤ s.size ∧ m ≤ N) (fun _ wr => s.size - wr.iterPos w.heap.size)
    case atStart => exact ⟨0, N, rfl, rfl, Nat.zero_add _, Iff.rfl, Nat.zero_le _, Nat.le_refl _⟩
    case round =>
      obtain ⟨pos, m, rfl, rfl, hc, hm, hp0, hmN⟩ := hrel
      by_cases hp : pos < s.size
      · have hnx : ∀ ty, (Instr.next (.pointer (some ⟨w.heap.size, 0, none⟩)) true ty).run Tryd.prog (w.iter s pos) = _ := fun ty => run_next_any w s pos ty hp
        have hwd := ps_width s pos hp
        cases m with
        | zero =>
          have HC := Lib.hid (cu_yes (s := s) (n := (N : Int)) (p := pos) (by rw [HK.out, decide_eq_true_iff]; exact hm.1 (Nat.zero_le _)) (by rw [HP.out, ← hc]; rfl))
          have hz1 := extract_size_le s 0 pos
          have hz2 := extract_size_le s pos s.size
          clear hc hm
          go_wp2
          go_region_with (first
            | (go_at_call 25; (with_reducible refine (strClone_any _ (by omega) _).mono ?_); rintro e w1 ⟨rfl, p1⟩)
            | fail)
          all_goals
            go_wp2
            go_ret3
            exact ⟨ret_ssb HC.out.1 HC.out.2.1 HC.out.2.2, Below.from (by assumption) (Below.from (by assumption) ((below_iter w s _).drew))⟩
        | succ m =>
          rw [ps_step s pos hp, plc, hwd.2.2] at hc
          rw [ps_step s pos hp, List.length_cons] at hm
          have HC := Lib.hid hc
          have HM := Lib.hid hm
          clear hc hm
          go_wp2
          refine ⟨⟨_, m, rfl, by go_num, by have := HC.out; omega, by have := HM.out; omega, by omega, by omega⟩, ?_⟩
          simp; omega
      · have hnx : ∀ ty, (Instr.next (.pointer (some ⟨w.heap.size, 0, none⟩)) true ty).run Tryd.prog (w.iter s pos) = _ := fun ty => run_next_end w s pos ty hp
        rw [ps_end s pos hp] at hc hm
        cases m with
        | zero =>
          obtain rfl : pos = s.size := by omega
          have HC := Lib.hid (cu_yes (s := s) (n := (N : Int)) (p := s.size) (by rw [HK.out, decide_eq_true_iff]; exact hm.1 (Nat.zero_le _)) (by rw [HP.out, ← hc]; rfl))
          rw [extract_whole, extract_none] at HC
          clear hc hm
          go_wp2_with (first
            | (go_at_call 25; (with_reducible refine (strClone_any _ hs _).mono ?_); rintro e w1 ⟨rfl, p1⟩)
            | fail)
          go_ret3
          exact ⟨ret_ssb HC.out.1 HC.out.2.1 HC.out.2.2, p1.from (below_iter w s _)⟩
        | succ m =>
          have HC := Lib.hid (cu_no (s := s) (n := (N : Int)) (by rw [HK.out, decide_eq_false_iff_not]; intro h; have := hm.2 h; simp at this))
          clear hc hm
          go_wp2
          go_ret3
          exact ⟨ret_ssb HC.out.1 HC.out.2.1 HC.out.2.2, below_iter w s _⟩

end Go.Proofs.YtejppikbdplamaaDoor.Runes
