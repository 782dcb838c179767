/-
  The walk of SumsTurned: the byte is another one.
-/
import Derived.Test.YtmcohgpgkeejpaaLaw02Same
import Derived.IntWalk
namespace Go.Proofs.Ytmcohgpgkeejpaa.Sums
open Go.RowKit
open Base
set_option linter.unusedVariables false

theorem cat_one (l : List UInt8) : cat [(⟨l.toArray⟩ : ByteArray)] = l := by simp [cat]

set_option maxHeartbeats 2000000 in
theorem sumsTurned_end (s : ByteArray) (hs : s.size ≤ maxLen) (k : Nat) (y : UInt8) (w : World) (hL : longB [s] = false) (hk : k < s.size) (hy : s.data.toList[k]'(by rw [← Lib.size_eq]; exact hk) ≠ y)
    (hend : ¬ k + 1 < s.size) :
    Calls Try.prog 6 #[.string s, .int .i64 k, .int .u8 (y.toNat : Int)] w fun e w' => e = .returned (.bool true) ∧ Below w.heap.size w w' := by
  have hz : ∀ u ∈ [s], u.size ≤ maxLen := by simp [hs]
  have Z := Lib.hid hz
  have hlk : k < s.data.toList.length := by rw [← Lib.size_eq]; exact hk
  obtain ⟨S2, h2⟩ : ∃ S2 : ByteArray, S2 = ⟨(s.data.toList.set k y).toArray⟩ := ⟨_, rfl⟩
  have hz2 : ∀ u ∈ [S2], u.size ≤ maxLen := by
    simp only [List.mem_singleton]; rintro u rfl; rw [h2, Lib.size_eq]; simp only [List.length_set]; rw [← Lib.size_eq]; exact hs
  have Z2 := Lib.hid hz2
  have hne : sum (cat [S2]) ≠ sum (cat [s]) := by
    rw [h2, cat_one]; simpa [cat] using sum_set s.data.toList k y hlk hy
  have hne2 : (sum (cat [S2]) == sum (cat [s])) = false := by simpa using hne
  obtain ⟨W1, C, hcv, hR, hB, hsz⟩ := conv_at (P := Try.prog) (w.alloc (.cells #[.string s] 9)) 9 33 5 s Try.underlying9 Try.underlying33 Try.underlying5
  rw [World.size_alloc] at hcv hR hsz
  obtain ⟨x, hx⟩ : ∃ x, x = s.data.toList[k] := ⟨_, rfl⟩
  obtain ⟨c1, f1⟩ := hR k hlk
  rw [← hx] at c1 hy
  have hbel := hB.from (below_one _)
  have hby : ((x.toNat : Int) == (y.toNat : Int)) = false := by
    simp only [beq_eq_false_iff_ne, ne_eq]; intro he; exact hy (UInt8.toNat_inj.1 (by omega))
  have hR2 := hR.set k y
  have hm := run_conv_row (P := Try.prog) hR2 33 9 5 Try.underlying33 Try.underlying5 Try.underlying9 s.size C (by rw [List.length_set, Lib.size_eq])
  rw [← h2] at hm
  have hbel2 := hbel.setCell (p := ⟨w.heap.size + 1, k, none⟩) (by simp) (.int .u8 (y.toNat : Int))
  have hk0 : (0 : Int) ≤ (k : Int) := by omega
  have hk1 : decide (s.size ≤ k) = false := by simpa using hk
  have HB2 := Lib.hid hbel2
  have hg : decide ((k : Int) < (s.size : Int) - 1) = false := by simp only [decide_eq_false_iff_not]; omega
  clear hx hR hR2 h2 hne hbel2 hz hz2 hy hB hbel
  unfold maxLen at hs
  go_enter Try.func6, Try.ntmps6
  go_wp2_with (first
    | (go_at_call 7; (with_reducible refine (long_any _ 1 1 [s] _ rfl (Nat.le_of_ble_eq_true rfl) (reads_one (by simp) _ _) Z.out).mono ?_); rintro e w1 ⟨rfl, rfl⟩)
    | (go_at_call 9; (with_reducible refine (sum_any _ 1 1 [S2] _ rfl (Nat.le_of_ble_eq_true rfl) (reads_one (by simp) _ _) Z2.out).mono ?_); rintro e w2 ⟨rfl, p2⟩)
    | (go_at_call 9; (with_reducible refine (sum_any _ 1 1 [s] _ rfl (Nat.le_of_ble_eq_true rfl) (reads_one (by simp) _ _) Z.out).mono ?_); rintro e w3 ⟨rfl, p3⟩; obtain ⟨W3, C3, hcv3, hR3, hB3, hsz3⟩ := conv_at (P := Try.prog) w3 9 33 5 s Try.underlying9 Try.underlying33 Try.underlying5)
    | (go_at_call 8; (with_reducible refine (awake_any _).mono ?_); rintro e w9 ⟨rfl, p9⟩))
  go_quiet (fail)
  go_wp2_with (go_at_call 8; (with_reducible refine (awake_any _).mono ?_); rintro e w9 ⟨rfl, p9⟩)
  go_ret
  exact ⟨rfl, by (focus repeat (first | exact Below.refl _ _ | assumption | (exact Hid.out (by assumption)) | (with_reducible refine Below.drew ?_) | (with_reducible refine below_drewN ?_ _) | (refine Below.from (below_one _) ?_) | (refine Below.from (below_conv _ _ _) ?_) | (refine Below.setCell ?_ (by simp <;> omega) _) | (refine Below.from (by assumption) ?_)))⟩
set_option maxHeartbeats 2000000 in
theorem sumsTurned_next (s : ByteArray) (hs : s.size ≤ maxLen) (k : Nat) (y : UInt8) (w : World) (hL : longB [s] = false) (hk : k < s.size) (hy : s.data.toList[k]'(by rw [← Lib.size_eq]; exact hk) ≠ y)
    (hend : k + 1 < s.size) :
    Calls Try.prog 6 #[.string s, .int .i64 k, .int .u8 (y.toNat : Int)] w fun e w' => e = .returned (.bool true) ∧ Below w.heap.size w w' := by
  have hz : ∀ u ∈ [s], u.size ≤ maxLen := by simp [hs]
  have Z := Lib.hid hz
  have hlk : k < s.data.toList.length := by rw [← Lib.size_eq]; exact hk
  obtain ⟨S2, h2⟩ : ∃ S2 : ByteArray, S2 = ⟨(s.data.toList.set k y).toArray⟩ := ⟨_, rfl⟩
  have hz2 : ∀ u ∈ [S2], u.size ≤ maxLen := by
    simp only [List.mem_singleton]; rintro u rfl; rw [h2, Lib.size_eq]; simp only [List.length_set]; rw [← Lib.size_eq]; exact hs
  have Z2 := Lib.hid hz2
  have hne : sum (cat [S2]) ≠ sum (cat [s]) := by
    rw [h2, cat_one]; simpa [cat] using sum_set s.data.toList k y hlk hy
  have hne2 : (sum (cat [S2]) == sum (cat [s])) = false := by simpa using hne
  obtain ⟨W1, C, hcv, hR, hB, hsz⟩ := conv_at (P := Try.prog) (w.alloc (.cells #[.string s] 9)) 9 33 5 s Try.underlying9 Try.underlying33 Try.underlying5
  rw [World.size_alloc] at hcv hR hsz
  obtain ⟨x, hx⟩ : ∃ x, x = s.data.toList[k] := ⟨_, rfl⟩
  have hlk1 : k + 1 < s.data.toList.length := by rw [← Lib.size_eq]; exact hend
  obtain ⟨z, hz1⟩ : ∃ z, z = s.data.toList[k + 1] := ⟨_, rfl⟩
  have HX := Lib.hid hx
  have HZ := Lib.hid hz1
  obtain ⟨c1, f1⟩ := hR k hlk
  rw [← hx] at c1 hy
  have hbel := hB.from (below_one _)
  have hby : ((x.toNat : Int) == (y.toNat : Int)) = false := by
    simp only [beq_eq_false_iff_ne, ne_eq]; intro he; exact hy (UInt8.toNat_inj.1 (by omega))
  have hR2 := hR.set k y
  have hm := run_conv_row (P := Try.prog) hR2 33 9 5 Try.underlying33 Try.underlying5 Try.underlying9 s.size C (by rw [List.length_set, Lib.size_eq])
  rw [← h2] at hm
  have hbel2 := hbel.setCell (p := ⟨w.heap.size + 1, k, none⟩) (by simp) (.int .u8 (y.toNat : Int))
  have hk0 : (0 : Int) ≤ (k : Int) := by omega
  have hk1 : decide (s.size ≤ k) = false := by simpa using hk
  have HB2 := Lib.hid hbel2
  have hg : decide ((k : Int) < (s.size : Int) - 1) = true := by simp only [decide_eq_true_eq]; omega
  have e1 : IntKind.i64.wrap ((k : Int) + 1) = (k : Int) + 1 := IntWalk.i64_in _ (by unfold maxLen at hs; omega)
  have e2 : (0 : Int) ≤ (k : Int) + 1 := by omega
  have e3 : ((k : Int) + 1).toNat = k + 1 := by omega
  have e4 : (k : Int) + 1 < (s.size : Int) := by omega
  clear hz1 hx hR hR2 h2 hne hbel2 hz hz2 hy hB hbel
  unfold maxLen at hs
  go_enter Try.func6, Try.ntmps6
  go_wp2_with (first
    | (go_at_call 7; (with_reducible refine (long_any _ 1 1 [s] _ rfl (Nat.le_of_ble_eq_true rfl) (reads_one (by simp) _ _) Z.out).mono ?_); rintro e w1 ⟨rfl, rfl⟩)
    | (go_at_call 9; (with_reducible refine (sum_any _ 1 1 [S2] _ rfl (Nat.le_of_ble_eq_true rfl) (reads_one (by simp) _ _) Z2.out).mono ?_); rintro e w2 ⟨rfl, p2⟩)
    | (go_at_call 9; (with_reducible refine (sum_any _ 1 1 [s] _ rfl (Nat.le_of_ble_eq_true rfl) (reads_one (by simp) _ _) Z.out).mono ?_); rintro e w3 ⟨rfl, p3⟩; obtain ⟨W3, C3, hcv3, hR3, hB3, hsz3⟩ := conv_at (P := Try.prog) w3 9 33 5 s Try.underlying9 Try.underlying33 Try.underlying5; obtain ⟨c3, f3⟩ := hR3 k hlk; obtain ⟨c4, f4⟩ := hR3 (k + 1) hlk1; rw [← HX.out] at c3; rw [← HZ.out] at c4)
    | (go_at_call 8; (with_reducible refine (awake_any _).mono ?_); rintro e w9 ⟨rfl, p9⟩))
  go_quiet (fail)
  by_cases hxz : x = z
  · have hb : ((x.toNat : Int) != (z.toNat : Int)) = false := by rw [hxz]; simp
    clear hxz
    go_wp2_with (go_at_call 8; (with_reducible refine (awake_any _).mono ?_); rintro e w9 ⟨rfl, p9⟩)
    go_ret
    exact ⟨rfl, by (focus repeat (first | exact Below.refl _ _ | assumption | (exact Hid.out (by assumption)) | (with_reducible refine Below.drew ?_) | (with_reducible refine below_drewN ?_ _) | (refine Below.from (below_one _) ?_) | (refine Below.from (below_conv _ _ _) ?_) | (refine Below.setCell ?_ (by simp <;> omega) _) | (refine Below.from (by assumption) ?_)))⟩
  · have hb : ((x.toNat : Int) != (z.toNat : Int)) = true := by
      rw [bne_iff_ne]; intro he; exact hxz (UInt8.toNat_inj.1 (by omega))
    obtain ⟨S3, h3⟩ : ∃ S3 : ByteArray, S3 = ⟨((s.data.toList.set k z).set (k + 1) x).toArray⟩ := ⟨_, rfl⟩
    have hz3 : ∀ u ∈ [S3], u.size ≤ maxLen := by
      simp only [List.mem_singleton]; rintro u rfl; rw [h3, Lib.size_eq]; simp only [List.length_set]; rw [← Lib.size_eq]; unfold maxLen; exact hs
    have Z3 := Lib.hid hz3
    have hne3 : (sum (cat [S3]) == sum (cat [s])) = false := by
      rw [h3, cat_one, HZ.out, HX.out]
      rw [HX.out, HZ.out] at hxz
      simpa [cat] using sum_swap s.data.toList k hlk1 hxz
    have hR4 := fun n => ((hR3.drewN n).set k z).set (k + 1) x
    have hm3 := fun n => run_conv_row (P := Try.prog) (hR4 n) 33 9 5 Try.underlying33 Try.underlying5 Try.underlying9 s.size C3 (by rw [List.length_set, List.length_set, Lib.size_eq])
    rw [← h3] at hm3
    clear hR4 hxz h3 hz3
    go_wp2_with fail
    go_region
    go_wp2_with (first
      | (go_at_call 9; (with_reducible refine (sum_any _ 1 1 [S3] _ rfl (Nat.le_of_ble_eq_true rfl) (reads_one (by simp) _ _) Z3.out).mono ?_); rintro e w5 ⟨rfl, p5⟩)
      | (go_at_call 9; (with_reducible refine (sum_any _ 1 1 [s] _ rfl (Nat.le_of_ble_eq_true rfl) (reads_one (by simp) _ _) Z.out).mono ?_); rintro e w6 ⟨rfl, p6⟩)
      | (go_at_call 8; (with_reducible refine (awake_any _).mono ?_); rintro e w9 ⟨rfl, p9⟩))
    go_ret
    have hw3 : Below w.heap.size w w3 := by (focus repeat (first | exact Below.refl _ _ | assumption | (exact Hid.out (by assumption)) | (with_reducible refine Below.drew ?_) | (with_reducible refine below_drewN ?_ _) | (refine Below.from (below_one _) ?_) | (refine Below.from (below_conv _ _ _) ?_) | (refine Below.setCell ?_ (by simp <;> omega) _) | (refine Below.from (by assumption) ?_)))
    have hW3 : Below w.heap.size w W3 := hB3.from hw3
    have hst := ((below_drewN hW3 (nq + 1)).setCell (p := ⟨w3.heap.size, k, none⟩) hw3.size (.int .u8 (z.toNat : Int))).setCell (p := ⟨w3.heap.size, k + 1, none⟩) hw3.size (.int .u8 (x.toNat : Int))
    exact ⟨rfl, by (focus repeat (first | exact Below.refl _ _ | assumption | (exact Hid.out (by assumption)) | (with_reducible refine Below.drew ?_) | (with_reducible refine below_drewN ?_ _) | (refine Below.from (below_one _) ?_) | (refine Below.from (below_conv _ _ _) ?_) | (refine Below.setCell ?_ (by simp <;> omega) _) | (refine Below.from (by assumption) ?_)))⟩

theorem sumsTurned_any (s : ByteArray) (hs : s.size ≤ maxLen) (k y : Int) (y0 : 0 ≤ y) (y1 : y ≤ 255) (w : World) :
    Calls Try.prog 6 #[.string s, .int .i64 k, .int .u8 y] w fun e w' => e = .returned (.bool true) ∧ Below w.heap.size w w' := by
  by_cases h : longB [s] = true ∨ k < 0 ∨ (s.size : Int) ≤ k
  · exact sumsTurned_out s hs k y w h
  · have h1 : longB [s] = false := by
      cases hb : longB [s] with
      | false => rfl
      | true => exact absurd (Or.inl hb) h
    have h2 : ¬ (k < 0 ∨ (s.size : Int) ≤ k) := fun hc => h (Or.inr hc)
    obtain ⟨n, rfl⟩ := Int.eq_ofNat_of_zero_le (show 0 ≤ k by omega)
    have hk : n < s.size := by omega
    obtain ⟨u, hu⟩ : ∃ u : UInt8, (u.toNat : Int) = y := ⟨UInt8.ofNat y.toNat, by simp; omega⟩
    subst hu
    by_cases hy : s.data.toList[n]'(by rw [← Lib.size_eq]; exact hk) = u
    · exact sumsTurned_same s hs n u w h1 hk hy
    · by_cases hend : n + 1 < s.size
      · exact sumsTurned_next s hs n u w h1 hk hy hend
      · exact sumsTurned_end s hs n u w h1 hk hy hend

end Go.Proofs.Ytmcohgpgkeejpaa.Sums
