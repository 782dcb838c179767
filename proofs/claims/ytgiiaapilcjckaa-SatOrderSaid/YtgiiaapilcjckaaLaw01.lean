/-
  The walks of the statements of layer 1: 'awake' and the four laws.
-/
import Derived.Test.YtgiiaapilcjckaaRows
import Derived.Test.YtgiiaapilcjckaaSatWalks
import Derived.Test.YtgiiaapilcjckaaRef01
namespace Go.Proofs.Ytgiiaapilcjckaa.Sat
open Go.RowKit
set_option linter.unusedVariables false

set_option maxHeartbeats 1000000 in
theorem awake_any (w : World) :
    Calls Try.prog 7 #[] w fun e w' => e = .returned (.bool true) ∧ Below w.heap.size w w' := by
  have e1 : add 1000000 [999999, 5] = 1000000 := by decide
  have e2 : over 1000000 [999999, 5] = true := by decide
  have e3 : over 1000000 [3] = false := by decide
  have e4 : sub 1000000 5 3 = 2 := by decide
  have e5 : sub 1000000 3 5 = 0 := by decide
  have e6 : mulc 1000000000000 1000000 1000001 = 1000000000000 := by decide
  have e7 : mulc 1000000000000 3 4 = 12 := by decide
  have e8 : add 1000000000000 [1, 2] = 3 := by decide
  have e9 : cl 7 1000000000000 / 2 = 3 := by decide
  have e10 : cl (-1) 1000000 = 0 := by decide
  have e11 : cl 9 1000000000000 = 9 := by decide
  go_enter Try.func7, Try.ntmps7
  go_wp2_with (first
    | (go_at_call 8; (with_reducible refine (add_any _ 2 2 [999999, 5] _ rfl (Nat.le_of_ble_eq_true rfl) (reads_two (by simp) _ _ _)).mono ?_); rintro e w' ⟨rfl, rfl⟩)
    | (go_at_call 10; (with_reducible refine (over_any _ 2 2 [999999, 5] _ rfl (Nat.le_of_ble_eq_true rfl) (reads_two (by simp) _ _ _)).mono ?_); rintro e w' ⟨rfl, rfl⟩)
    | (go_at_call 10; (with_reducible refine (over_any _ 1 1 [3] _ rfl (Nat.le_of_ble_eq_true rfl) (reads_one (by simp) _ _)).mono ?_); rintro e w' ⟨rfl, rfl⟩)
    | (go_at_call 16; (with_reducible refine (plus_any _ 2 2 [1, 2] _ rfl (Nat.le_of_ble_eq_true rfl) (reads_two (by simp) _ _ _)).mono ?_); rintro e w' ⟨rfl, rfl⟩)
    | (go_at_call 12; (with_reducible refine (sub_any _ _ _).mono ?_); rintro e w' ⟨rfl, rfl⟩)
    | (go_at_call 18; (with_reducible refine (times_any _ _ _).mono ?_); rintro e w' ⟨rfl, rfl⟩)
    | (go_at_call 20; (with_reducible refine (half_any _ _).mono ?_); rintro e w' ⟨rfl, rfl⟩)
    | (go_at_call 14; (with_reducible refine (time_any _ _).mono ?_); rintro e w' ⟨rfl, rfl⟩)
    | (go_at_call 22; (with_reducible refine (usage_any _ _).mono ?_); rintro e w' ⟨rfl, rfl⟩))
  go_ret
  exact ⟨rfl, by repeat (first | exact Below.refl _ _ | (refine Below.alloc ?_ (by simp <;> omega) _))⟩

set_option maxHeartbeats 1000000 in
theorem satTimes_any (a0 : Option Addr) (len cap : Nat) (zs : List Int) (a b : Int) (w : World) (hlen : zs.length = len) (hl : len ≤ 9223372036854775807) (hr : Reads w a0 zs) :
    Calls Try.prog 3 #[.slice a0 len cap, .int .i64 a, .int .i64 b] w fun e w' => e = .returned (.bool true) ∧ Below w.heap.size w w' := by
  have H := Lib.hid hlen
  have Hl := Lib.hid hl
  have HR := Lib.hid hr
  clear hlen hl hr
  by_cases hb : (100000 : Int) < (len : Int)
  · go_enter Try.func3, Try.ntmps3
    go_wp2_with (go_at_call 7; (with_reducible refine (awake_any _).mono ?_); rintro e w' ⟨rfl, hb⟩)
    go_ret
    exact ⟨rfl, hb⟩
  · go_enter Try.func3, Try.ntmps3
    go_wp2_with (first
      | (go_at_call 8; (with_reducible refine (add_any _ _ _ zs _ H.out Hl.out HR.out).mono ?_); rintro e w' ⟨rfl, rfl⟩)
      | (go_at_call 9; (with_reducible refine (radd_any _ _ _ zs _ H.out Hl.out HR.out).mono ?_); rintro e w' ⟨rfl, rfl⟩)
      | (go_at_call 10; (with_reducible refine (over_any _ _ _ zs _ H.out Hl.out HR.out).mono ?_); rintro e w' ⟨rfl, rfl⟩)
      | (go_at_call 11; (with_reducible refine (rover_any _ _ _ zs _ H.out Hl.out HR.out).mono ?_); rintro e w' ⟨rfl, rfl⟩)
      | (go_at_call 12; (with_reducible refine (sub_any _ _ _).mono ?_); rintro e w' ⟨rfl, rfl⟩)
      | (go_at_call 13; (with_reducible refine (rsub_any _ _ _).mono ?_); rintro e w' ⟨rfl, rfl⟩)
      | (go_at_call 14; (with_reducible refine (time_any _ _).mono ?_); rintro e w' ⟨rfl, rfl⟩)
      | (go_at_call 15; (with_reducible refine (rtime_any _ _).mono ?_); rintro e w' ⟨rfl, rfl⟩)
      | (go_at_call 7; (with_reducible refine (awake_any _).mono ?_); rintro e w' ⟨rfl, hb⟩))
    go_ret
    exact ⟨rfl, hb⟩

set_option maxHeartbeats 1000000 in
theorem satUsages_any (a0 : Option Addr) (len cap : Nat) (zs : List Int) (a b : Int) (w : World) (hlen : zs.length = len) (hl : len ≤ 9223372036854775807) (hr : Reads w a0 zs) :
    Calls Try.prog 4 #[.slice a0 len cap, .int .i64 a, .int .i64 b] w fun e w' => e = .returned (.bool true) ∧ Below w.heap.size w w' := by
  have H := Lib.hid hlen
  have Hl := Lib.hid hl
  have HR := Lib.hid hr
  clear hlen hl hr
  by_cases hb : (100000 : Int) < (len : Int)
  · go_enter Try.func4, Try.ntmps4
    go_wp2_with (go_at_call 7; (with_reducible refine (awake_any _).mono ?_); rintro e w' ⟨rfl, hb⟩)
    go_ret
    exact ⟨rfl, hb⟩
  · go_enter Try.func4, Try.ntmps4
    go_wp2_with (first
      | (go_at_call 16; (with_reducible refine (plus_any _ _ _ zs _ H.out Hl.out HR.out).mono ?_); rintro e w' ⟨rfl, rfl⟩)
      | (go_at_call 17; (with_reducible refine (rplus_any _ _ _ zs _ H.out Hl.out HR.out).mono ?_); rintro e w' ⟨rfl, rfl⟩)
      | (go_at_call 18; (with_reducible refine (times_any _ _ _).mono ?_); rintro e w' ⟨rfl, rfl⟩)
      | (go_at_call 19; (with_reducible refine (rtimes_any _ _ _).mono ?_); rintro e w' ⟨rfl, rfl⟩)
      | (go_at_call 20; (with_reducible refine (half_any _ _).mono ?_); rintro e w' ⟨rfl, rfl⟩)
      | (go_at_call 21; (with_reducible refine (rhalf_any _ _).mono ?_); rintro e w' ⟨rfl, rfl⟩)
      | (go_at_call 22; (with_reducible refine (usage_any _ _).mono ?_); rintro e w' ⟨rfl, rfl⟩)
      | (go_at_call 23; (with_reducible refine (rusage_any _ _).mono ?_); rintro e w' ⟨rfl, rfl⟩)
      | (go_at_call 7; (with_reducible refine (awake_any _).mono ?_); rintro e w' ⟨rfl, hb⟩))
    go_ret
    exact ⟨rfl, hb⟩

set_option maxHeartbeats 1000000 in
theorem satOrder_any (a b c : Int) (w : World) :
    Calls Try.prog 6 #[.int .i64 a, .int .i64 b, .int .i64 c] w fun e w' => e = .returned (.bool true) ∧ Below w.heap.size w w' := by
  have hcomm := mulc_comm 1000000000000 a b
  by_cases hle : b ≤ c
  · have f1 := add_two_mono 1000000 a b c (by omega) hle
    have f2 := sub_anti 1000000 a b c (by omega) hle
    have f3 := mulc_mono 1000000000000 a b c (by omega) hle
    by_cases hov : over 1000000 [a, b] = true
    · have f4 := over_id 1000000 [a, b] (by omega) hov
      have f5 := over_one 1000000 [a, b] (by omega) hov
      go_enter Try.func6, Try.ntmps6
      go_wp2_with (first
        | (go_at_call 8; (with_reducible refine (add_any _ 2 2 [a, b] _ rfl (Nat.le_of_ble_eq_true rfl) (reads_two (by simp) _ _ _)).mono ?_); rintro e w' ⟨rfl, rfl⟩)
        | (go_at_call 8; (with_reducible refine (add_any _ 2 2 [a, c] _ rfl (Nat.le_of_ble_eq_true rfl) (reads_two (by simp) _ _ _)).mono ?_); rintro e w' ⟨rfl, rfl⟩)
        | (go_at_call 8; (with_reducible refine (add_any _ 2 2 [add 1000000 [a, b], 1] _ rfl (Nat.le_of_ble_eq_true rfl) (reads_two (by simp) _ _ _)).mono ?_); rintro e w' ⟨rfl, rfl⟩)
        | (go_at_call 10; (with_reducible refine (over_any _ 2 2 [a, b] _ rfl (Nat.le_of_ble_eq_true rfl) (reads_two (by simp) _ _ _)).mono ?_); rintro e w' ⟨rfl, rfl⟩)
        | (go_at_call 12; (with_reducible refine (sub_any _ _ _).mono ?_); rintro e w' ⟨rfl, rfl⟩)
        | (go_at_call 14; (with_reducible refine (time_any _ _).mono ?_); rintro e w' ⟨rfl, rfl⟩)
        | (go_at_call 18; (with_reducible refine (times_any _ _ _).mono ?_); rintro e w' ⟨rfl, rfl⟩)
        | (go_at_call 7; (with_reducible refine (awake_any _).mono ?_); rintro e w' ⟨rfl, hb⟩))
      go_ret
      exact ⟨rfl, by refine hb.from ?_; repeat (first | exact Below.refl _ _ | (refine Below.alloc ?_ (by simp <;> omega) _))⟩
    · have hov : over 1000000 [a, b] = false := by simpa using hov
      have f4 := back_two 1000000 a b (by omega) hov
      have f5 := more_two 1000000 a b (by omega) hov
      go_enter Try.func6, Try.ntmps6
      go_wp2_with (first
        | (go_at_call 8; (with_reducible refine (add_any _ 2 2 [a, b] _ rfl (Nat.le_of_ble_eq_true rfl) (reads_two (by simp) _ _ _)).mono ?_); rintro e w' ⟨rfl, rfl⟩)
        | (go_at_call 8; (with_reducible refine (add_any _ 2 2 [a, c] _ rfl (Nat.le_of_ble_eq_true rfl) (reads_two (by simp) _ _ _)).mono ?_); rintro e w' ⟨rfl, rfl⟩)
        | (go_at_call 8; (with_reducible refine (add_any _ 2 2 [add 1000000 [a, b], 1] _ rfl (Nat.le_of_ble_eq_true rfl) (reads_two (by simp) _ _ _)).mono ?_); rintro e w' ⟨rfl, rfl⟩)
        | (go_at_call 10; (with_reducible refine (over_any _ 2 2 [a, b] _ rfl (Nat.le_of_ble_eq_true rfl) (reads_two (by simp) _ _ _)).mono ?_); rintro e w' ⟨rfl, rfl⟩)
        | (go_at_call 12; (with_reducible refine (sub_any _ _ _).mono ?_); rintro e w' ⟨rfl, rfl⟩)
        | (go_at_call 14; (with_reducible refine (time_any _ _).mono ?_); rintro e w' ⟨rfl, rfl⟩)
        | (go_at_call 18; (with_reducible refine (times_any _ _ _).mono ?_); rintro e w' ⟨rfl, rfl⟩)
        | (go_at_call 7; (with_reducible refine (awake_any _).mono ?_); rintro e w' ⟨rfl, hb⟩))
      go_ret
      exact ⟨rfl, by refine hb.from ?_; repeat (first | exact Below.refl _ _ | (refine Below.alloc ?_ (by simp <;> omega) _))⟩
  · by_cases hov : over 1000000 [a, b] = true
    · have f4 := over_id 1000000 [a, b] (by omega) hov
      have f5 := over_one 1000000 [a, b] (by omega) hov
      go_enter Try.func6, Try.ntmps6
      go_wp2_with (first
        | (go_at_call 8; (with_reducible refine (add_any _ 2 2 [a, b] _ rfl (Nat.le_of_ble_eq_true rfl) (reads_two (by simp) _ _ _)).mono ?_); rintro e w' ⟨rfl, rfl⟩)
        | (go_at_call 8; (with_reducible refine (add_any _ 2 2 [a, c] _ rfl (Nat.le_of_ble_eq_true rfl) (reads_two (by simp) _ _ _)).mono ?_); rintro e w' ⟨rfl, rfl⟩)
        | (go_at_call 8; (with_reducible refine (add_any _ 2 2 [add 1000000 [a, b], 1] _ rfl (Nat.le_of_ble_eq_true rfl) (reads_two (by simp) _ _ _)).mono ?_); rintro e w' ⟨rfl, rfl⟩)
        | (go_at_call 10; (with_reducible refine (over_any _ 2 2 [a, b] _ rfl (Nat.le_of_ble_eq_true rfl) (reads_two (by simp) _ _ _)).mono ?_); rintro e w' ⟨rfl, rfl⟩)
        | (go_at_call 12; (with_reducible refine (sub_any _ _ _).mono ?_); rintro e w' ⟨rfl, rfl⟩)
        | (go_at_call 14; (with_reducible refine (time_any _ _).mono ?_); rintro e w' ⟨rfl, rfl⟩)
        | (go_at_call 18; (with_reducible refine (times_any _ _ _).mono ?_); rintro e w' ⟨rfl, rfl⟩)
        | (go_at_call 7; (with_reducible refine (awake_any _).mono ?_); rintro e w' ⟨rfl, hb⟩))
      go_ret
      exact ⟨rfl, by refine hb.from ?_; repeat (first | exact Below.refl _ _ | (refine Below.alloc ?_ (by simp <;> omega) _))⟩
    · have hov : over 1000000 [a, b] = false := by simpa using hov
      have f4 := back_two 1000000 a b (by omega) hov
      have f5 := more_two 1000000 a b (by omega) hov
      go_enter Try.func6, Try.ntmps6
      go_wp2_with (first
        | (go_at_call 8; (with_reducible refine (add_any _ 2 2 [a, b] _ rfl (Nat.le_of_ble_eq_true rfl) (reads_two (by simp) _ _ _)).mono ?_); rintro e w' ⟨rfl, rfl⟩)
        | (go_at_call 8; (with_reducible refine (add_any _ 2 2 [a, c] _ rfl (Nat.le_of_ble_eq_true rfl) (reads_two (by simp) _ _ _)).mono ?_); rintro e w' ⟨rfl, rfl⟩)
        | (go_at_call 8; (with_reducible refine (add_any _ 2 2 [add 1000000 [a, b], 1] _ rfl (Nat.le_of_ble_eq_true rfl) (reads_two (by simp) _ _ _)).mono ?_); rintro e w' ⟨rfl, rfl⟩)
        | (go_at_call 10; (with_reducible refine (over_any _ 2 2 [a, b] _ rfl (Nat.le_of_ble_eq_true rfl) (reads_two (by simp) _ _ _)).mono ?_); rintro e w' ⟨rfl, rfl⟩)
        | (go_at_call 12; (with_reducible refine (sub_any _ _ _).mono ?_); rintro e w' ⟨rfl, rfl⟩)
        | (go_at_call 14; (with_reducible refine (time_any _ _).mono ?_); rintro e w' ⟨rfl, rfl⟩)
        | (go_at_call 18; (with_reducible refine (times_any _ _ _).mono ?_); rintro e w' ⟨rfl, rfl⟩)
        | (go_at_call 7; (with_reducible refine (awake_any _).mono ?_); rintro e w' ⟨rfl, hb⟩))
      go_ret
      exact ⟨rfl, by refine hb.from ?_; repeat (first | exact Below.refl _ _ | (refine Below.alloc ?_ (by simp <;> omega) _))⟩

end Go.Proofs.Ytgiiaapilcjckaa.Sat
