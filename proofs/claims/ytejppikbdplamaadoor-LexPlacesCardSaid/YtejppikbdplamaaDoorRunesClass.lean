/-
  The walks of layer 4's classes.
-/
import Derived.Test.YtejppikbdplamaaDoorRunesMath
namespace Go.Proofs.YtejppikbdplamaaDoor.Runes
open Go.RowKit
open Base
set_option linter.unusedVariables false

theorem within_any (r a b : Int) (w : World) :
    Calls Tryd.prog 51 #[.int .i32 r, .int .i32 a, .int .i32 b] w fun e w' => e = .returned (.bool (decide (a ≤ r ∧ r ≤ b))) ∧ w = w' := by
  go_enter Tryd.func51, Tryd.ntmps51
  go_wp2
  all_goals
    go_ret
    refine ⟨ret_bool ?_, rfl⟩
    rw [Bool.eq_iff_iff]
    first | (simp [*]; done) | (simp [*]; omega)

theorem isMark_any (r : Int) (w : World) :
    Calls Tryd.prog 68 #[.int .i32 r] w fun e w' => e = .returned (.bool (decide (r = 34 ∨ r = 92))) ∧ w = w' := by
  go_enter Tryd.func68, Tryd.ntmps68
  go_wp2
  all_goals
    go_ret
    refine ⟨ret_bool ?_, rfl⟩
    rw [Bool.eq_iff_iff]
    simp [*]

def bdB (r : Int) : Bool := decide (r < 9 ∨ (10 ≤ r ∧ r ≤ 31) ∨ (127 ≤ r ∧ r ≤ 160) ∨ (55296 ≤ r ∧ r ≤ 57343) ∨ r = 65533 ∨ 1114111 < r)
theorem bdB_iff (r : Int) : bdB r = true ↔ (r < 9 ∨ (10 ≤ r ∧ r ≤ 31) ∨ (127 ≤ r ∧ r ≤ 160) ∨ (55296 ≤ r ∧ r ≤ 57343) ∨ r = 65533 ∨ 1114111 < r) := decide_eq_true_iff
theorem bdB_not (r : Int) : bdB r = false ↔ ¬ (r < 9 ∨ (10 ≤ r ∧ r ≤ 31) ∨ (127 ≤ r ∧ r ≤ 160) ∨ (55296 ≤ r ∧ r ≤ 57343) ∨ r = 65533 ∨ 1114111 < r) := by rw [← bdB_iff, Bool.not_eq_true]

set_option maxHeartbeats 1000000 in
theorem isBad_any (r : Int) (w : World) :
    Calls Tryd.prog 50 #[.int .i32 r] w fun e w' => e = .returned (.bool (bdB r)) ∧ w = w' := by
  go_enter Tryd.func50, Tryd.ntmps50
  go_wp2_with (first | (go_at_call 51; (with_reducible refine (within_any _ _ _ _).mono ?_); rintro e w' ⟨rfl, rfl⟩) | fail)
  all_goals
    go_ret
    refine ⟨ret_bool ?_, rfl⟩
    rw [Bool.eq_iff_iff, bdB_iff]
    first | (simp [*]; done) | (simp [*]; omega) | (simp; omega)

set_option maxHeartbeats 1000000 in
theorem class_any (r : Int) (w : World) :
    Calls Tryd.prog 29 #[.int .i32 r] w fun e w' => e = .returned (.int .i64 (cls r)) ∧ w = w' := by
  obtain ⟨c, hc⟩ : ∃ c, c = cls r := ⟨_, rfl⟩
  rw [← hc]
  have HC := Lib.hid hc
  clear hc
  go_enter Tryd.func29, Tryd.ntmps29
  go_wp2_with (first
    | (go_at_call 51; (with_reducible refine (within_any _ _ _ _).mono ?_); rintro e w' ⟨rfl, rfl⟩)
    | (go_at_call 50; (with_reducible refine (isBad_any _ _).mono ?_); rintro e w' ⟨rfl, rfl⟩)
    | fail)
  all_goals
    go_ret
    refine ⟨ret_int ?_, rfl⟩
    rw [HC.out]
    unfold cls
    try simp only [bdB_iff, bdB_not, beq_iff_eq, beq_eq_false_iff_ne, ne_eq] at *
    repeat' split
    all_goals first | rfl | (exfalso; omega)

set_option maxHeartbeats 2000000 in
theorem rclass_any (r : Int) (w : World) :
    Calls Tryd.prog 17 #[.int .i32 r] w fun e w' => e = .returned (.int .i64 (cls r)) ∧ w = w' := by
  obtain ⟨c, hc⟩ : ∃ c, c = cls r := ⟨_, rfl⟩
  rw [← hc]
  have HC := Lib.hid hc
  clear hc
  go_enter Tryd.func17, Tryd.ntmps17
  go_wp2
  all_goals
    go_ret
    refine ⟨ret_int ?_, rfl⟩
    rw [HC.out]
    unfold cls
    try simp only [beq_iff_eq, beq_eq_false_iff_ne, ne_eq] at *
    repeat' split
    all_goals first | rfl | (exfalso; omega)

end Go.Proofs.YtejppikbdplamaaDoor.Runes
