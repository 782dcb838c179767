/-
  The walk of SumsTurned, first ways: nothing is asked, and the byte is what it was.
-/
import Derived.Test.YtmcohgpgkeejpaaLaw02
import Derived.Test.YtmcohgpgkeejpaaByteRows
import Derived.Test.YtmcohgpgkeejpaaSumsTurnMath
import Derived.Deep.RegionWith
import Derived.Deep.QuietTactic
import Derived.BigQuiet
namespace Go.Proofs.Ytmcohgpgkeejpaa.Sums
open Go.RowKit
open Base
set_option linter.unusedVariables false

theorem long_one {s : ByteArray} (h : longB [s] = false) : s.size ≤ 60000 := by
  unfold longB at h; simp at h; omega

set_option maxHeartbeats 1000000 in
theorem sumsTurned_out (s : ByteArray) (hs : s.size ≤ maxLen) (k y : Int) (w : World) (h : longB [s] = true ∨ k < 0 ∨ (s.size : Int) ≤ k) :
    Calls Try.prog 6 #[.string s, .int .i64 k, .int .u8 y] w fun e w' => e = .returned (.bool true) ∧ Below w.heap.size w w' := by
  have hz : ∀ u ∈ [s], u.size ≤ maxLen := by simp [hs]
  have Z := Lib.hid hz
  clear hz
  unfold maxLen at hs
  by_cases hL : longB [s] = true
  · go_enter Try.func6, Try.ntmps6
    go_wp2_with (first
      | (go_at_call 7; (with_reducible refine (long_any _ 1 1 [s] _ rfl (Nat.le_of_ble_eq_true rfl) (reads_one (by simp) _ _) Z.out).mono ?_); rintro e w1 ⟨rfl, rfl⟩)
      | (go_at_call 8; (with_reducible refine (awake_any _).mono ?_); rintro e w3 ⟨rfl, p3⟩))
    go_ret
    exact ⟨rfl, p3.from (below_one _)⟩
  · have hL : longB [s] = false := by simpa using hL
    by_cases hk : k < 0
    · go_enter Try.func6, Try.ntmps6
      go_wp2_with (first
        | (go_at_call 7; (with_reducible refine (long_any _ 1 1 [s] _ rfl (Nat.le_of_ble_eq_true rfl) (reads_one (by simp) _ _) Z.out).mono ?_); rintro e w1 ⟨rfl, rfl⟩)
        | (go_at_call 8; (with_reducible refine (awake_any _).mono ?_); rintro e w3 ⟨rfl, p3⟩))
      go_ret
      exact ⟨rfl, p3.from (below_one _)⟩
    · have hk2 : (s.size : Int) ≤ k := by rcases h with h | h | h; · rw [hL] at h; cases h
                                          · exact absurd h hk
                                          · exact h
      clear h
      go_enter Try.func6, Try.ntmps6
      go_wp2_with (first
        | (go_at_call 7; (with_reducible refine (long_any _ 1 1 [s] _ rfl (Nat.le_of_ble_eq_true rfl) (reads_one (by simp) _ _) Z.out).mono ?_); rintro e w1 ⟨rfl, rfl⟩)
        | (go_at_call 8; (with_reducible refine (awake_any _).mono ?_); rintro e w3 ⟨rfl, p3⟩))
      go_ret
      exact ⟨rfl, p3.from (below_one _)⟩

set_option maxHeartbeats 1000000 in
theorem sumsTurned_same (s : ByteArray) (hs : s.size ≤ maxLen) (k : Nat) (y : UInt8) (w : World) (hL : longB [s] = false) (hk : k < s.size) (hy : s.data.toList[k]'(by rw [← Lib.size_eq]; exact hk) = y) :
    Calls Try.prog 6 #[.string s, .int .i64 k, .int .u8 (y.toNat : Int)] w fun e w' => e = .returned (.bool true) ∧ Below w.heap.size w w' := by
  have hz : ∀ u ∈ [s], u.size ≤ maxLen := by simp [hs]
  have Z := Lib.hid hz
  clear hz
  unfold maxLen at hs
  have hconv := fun w' : World => Lib.run_convert_string_bytes (P := Try.prog) w' 9 33 5 s Try.underlying9 Try.underlying33 Try.underlying5
  obtain ⟨c1, f1⟩ := byteRow_conv (w.alloc (.cells #[.string s] 9)) 5 s k (by rw [← Lib.size_eq]; exact hk)
  rw [World.size_alloc, hy] at c1
  rw [World.size_alloc] at f1
  clear hy
  have hk0 : (0 : Int) ≤ (k : Int) := by omega
  have hk1 : decide (s.size ≤ k) = false := by simpa using hk
  go_enter Try.func6, Try.ntmps6
  go_wp2_with (first
    | (go_at_call 7; (with_reducible refine (long_any _ 1 1 [s] _ rfl (Nat.le_of_ble_eq_true rfl) (reads_one (by simp) _ _) Z.out).mono ?_); rintro e w1 ⟨rfl, rfl⟩)
    | (go_at_call 8; (with_reducible refine (awake_any _).mono ?_); rintro e w3 ⟨rfl, p3⟩))
  have HR : Hid (ByteRow (Lib.bytesWorld (w.alloc (.cells #[.string s] 9)) 5 s) (w.heap.size + 1) s.data.toList) := by
    have := byteRow_conv (w.alloc (.cells #[.string s] 9)) 5 s
    rw [World.size_alloc] at this
    exact Lib.hid this
  have hB : Below w.heap.size w (Lib.bytesWorld (w.alloc (.cells #[.string s] 9)) 5 s) := (below_conv _ _ _).from (below_one _)
  clear c1 f1 hconv
  generalize Lib.bytesWorld (w.alloc (.cells #[.string s] 9)) 5 s = W1 at *
  generalize grownCap (w.alloc (.cells #[.string s] 9)) s.size 0 5 = C at *
  have hm : ∀ wx : World, ByteRow wx (w.heap.size + 1) s.data.toList → (convert 33 9 (.slice (some ⟨w.heap.size + 1, 0, none⟩) s.size C)).run Try.prog wx = .ok (.string s) wx := fun wx h => by
    have := run_conv_row (P := Try.prog) h 33 9 5 Try.underlying33 Try.underlying5 Try.underlying9 s.size C (by rw [Lib.size_eq])
    rw [Lib.mk_data] at this; exact this
  have HM := Lib.hid hm
  clear hm
  have q1 := HM.out W1.drew HR.out.drew
  have q2 := fun o => HM.out (W1.alloc o).drew (HR.out.below (below_one o)).drew
  go_region_with (first
    | (go_at_call 9; (with_reducible refine (sum_any _ 1 1 [s] _ rfl (Nat.le_of_ble_eq_true rfl) ?_ Z.out).mono ?_); (focus repeat (first | (refine reads_one ?_ _ _; simp; done) | (with_reducible refine Reads.drew ?_) | (refine Reads.alloc ?_ _) | (refine Reads.below ?_ (by assumption)))); rintro e w2 ⟨rfl, p2⟩; have q3 := HM.out w2 (HR.out.below (by (focus repeat (first | exact Below.refl _ _ | assumption | (exact Hid.out (by assumption)) | (with_reducible refine Below.drew ?_) | (with_reducible refine below_drewN ?_ _) | (refine Below.from (below_one _) ?_) | (refine Below.from (below_conv _ _ _) ?_) | (refine Below.setCell ?_ (by simp <;> omega) _) | (refine Below.from (by assumption) ?_))))))
    | (go_at_call 8; (with_reducible refine (awake_any _).mono ?_); rintro e w3 ⟨rfl, p3⟩))
  all_goals (go_wp2; go_ret; exact ⟨rfl, by (focus repeat (first | exact Below.refl _ _ | assumption | (exact Hid.out (by assumption)) | (with_reducible refine Below.drew ?_) | (with_reducible refine below_drewN ?_ _) | (refine Below.from (below_one _) ?_) | (refine Below.from (below_conv _ _ _) ?_) | (refine Below.setCell ?_ (by simp <;> omega) _) | (refine Below.from (by assumption) ?_)))⟩)
end Go.Proofs.Ytmcohgpgkeejpaa.Sums
