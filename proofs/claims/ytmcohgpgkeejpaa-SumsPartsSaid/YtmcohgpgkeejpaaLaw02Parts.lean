/-
  The walk of SumsParts.
-/
import Derived.Test.YtmcohgpgkeejpaaLaw02
namespace Go.Proofs.Ytmcohgpgkeejpaa.Sums
open Go.RowKit
open Base
set_option linter.unusedVariables false

theorem long_two {s t : ByteArray} (h : longB [s, t] = false) : s.size ≤ 60000 ∧ t.size ≤ 60000 := by
  unfold longB at h; simp at h; omega

set_option maxHeartbeats 1000000 in
theorem sumsParts_any (s t : ByteArray) (hs : s.size ≤ maxLen) (ht : t.size ≤ maxLen) (w : World) :
    Calls Try.prog 5 #[.string s, .string t] w fun e w' => e = .returned (.bool true) ∧ Below w.heap.size w w' := by
  have hz2 : ∀ u ∈ [s, t], u.size ≤ maxLen := by simp [hs, ht]
  have hzs : ∀ u ∈ [s], u.size ≤ maxLen := by simp [hs]
  have hzt : ∀ u ∈ [t], u.size ≤ maxLen := by simp [ht]
  have Z2 := Lib.hid hz2
  have ZS := Lib.hid hzs
  have ZT := Lib.hid hzt
  clear hz2 hzs hzt
  by_cases hL : longB [s, t] = true
  · go_enter Try.func5, Try.ntmps5
    go_wp2_with (first
      | (go_at_call 7; (with_reducible refine (long_any _ 2 2 [s, t] _ rfl (Nat.le_of_ble_eq_true rfl) (reads_two (by simp) _ _ _) Z2.out).mono ?_); rintro e w1 ⟨rfl, rfl⟩)
      | (go_at_call 8; (with_reducible refine (awake_any _).mono ?_); rintro e w3 ⟨rfl, p3⟩))
    go_ret
    exact ⟨rfl, p3.from (below_one _)⟩
  · have hL : longB [s, t] = false := by simpa using hL
    have hsz := long_two hL
    have hc : ∀ u ∈ [s ++ t], u.size ≤ maxLen := by simp only [List.mem_singleton]; rintro u rfl; rw [ByteArray.size_append]; unfold maxLen; omega
    have ZC := Lib.hid hc
    clear hc
    have e1 : sum (cat [s, t]) = sum (cat [s ++ t]) := by simp [cat, ByteArray.data_append]
    have e2 : more (sum (cat [s])) t.data.toList = sum (cat [s ++ t]) := by rw [← e1, sum_cat]; simp [cat]
    have e3 : join (sum (cat [s])) (sum (cat [t])) (t.size : Int) = sum (cat [s ++ t]) := by
      rw [← e1, Lib.size_eq]; simp only [cat, List.append_nil]; rw [sum_parts]
    have b1 := sum_bd (cat [s])
    have b2 := sum_bd (cat [t])
    go_enter Try.func5, Try.ntmps5
    go_wp2_with (first
      | (go_at_call 7; (with_reducible refine (long_any _ 2 2 [s, t] _ rfl (Nat.le_of_ble_eq_true rfl) (reads_two (by simp) _ _ _) Z2.out).mono ?_); rintro e w1 ⟨rfl, rfl⟩)
      | (go_at_call 9; (with_reducible refine (sum_any _ 1 1 [s ++ t] _ rfl (Nat.le_of_ble_eq_true rfl) (reads_one (by simp) _ _) ZC.out).mono ?_); rintro e w2 ⟨rfl, p2⟩)
      | (go_at_call 9; (with_reducible refine (sum_any _ 2 2 [s, t] _ rfl (Nat.le_of_ble_eq_true rfl) (reads_two (by simp) _ _ _) Z2.out).mono ?_); rintro e w4 ⟨rfl, p4⟩)
      | (go_at_call 9; (with_reducible refine (sum_any _ 1 1 [s] (w4.alloc _) rfl (Nat.le_of_ble_eq_true rfl) (reads_one (by simp) _ _) ZS.out).mono ?_); rintro e w5 ⟨rfl, p5⟩)
      | (go_at_call 11; (with_reducible refine (more_any _ b1.1 b1.2 _ ht _).mono ?_); rintro e w6 ⟨rfl, p6⟩)
      | (go_at_call 9; (with_reducible refine (sum_any _ 1 1 [s] (w6.alloc _) rfl (Nat.le_of_ble_eq_true rfl) (reads_one (by simp) _ _) ZS.out).mono ?_); rintro e w7 ⟨rfl, p7⟩)
      | (go_at_call 9; (with_reducible refine (sum_any _ 1 1 [t] (w7.alloc _) rfl (Nat.le_of_ble_eq_true rfl) (reads_one (by simp) _ _) ZT.out).mono ?_); rintro e w8 ⟨rfl, p8⟩)
      | (go_at_call 13; (with_reducible refine (join_any _ _ _ b1.1 b1.2 b2.1 b2.2 _).mono ?_); rintro e w9 ⟨rfl, p9⟩)
      | (go_at_call 8; (with_reducible refine (awake_any _).mono ?_); rintro e w3 ⟨rfl, p3⟩))
    go_ret
    exact ⟨rfl, p3.from (p9.from (p8.from ((below_one _).from (p7.from ((below_one _).from (p6.from (p5.from ((below_one _).from (p4.from ((below_one _).from (p2.from (below_two _ _))))))))))))⟩

end Go.Proofs.Ytmcohgpgkeejpaa.Sums
