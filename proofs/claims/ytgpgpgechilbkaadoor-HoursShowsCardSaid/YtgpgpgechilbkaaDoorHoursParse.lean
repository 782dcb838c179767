/-
  The walk of package hours: a time, read.
-/
import Derived.Test.YtgpgpgechilbkaaDoorHoursCut
import Derived.Deep.LoopGhost
import Derived.Deep.RegionWith
namespace Go.Proofs.YtgpgpgechilbkaaDoor.Hours
open Go.RowKit
open Base Sat HoursLib
set_option linter.unusedVariables false
set_option linter.unusedSimpArgs false

theorem toList_data (s : ByteArray) : s.toList = s.data.toList := Lib.toList_data s
theorem empty_iff (s : ByteArray) : s.toList.isEmpty = decide (s.size = 0) := by
  rw [toList_data, Lib.size_eq]
  cases h : s.data.toList <;> simp

set_option maxHeartbeats 4000000 in
theorem plus_two (a b : Int) (w : World) (x : Option Addr) (hr : Reads iV w x [a, b]) :
    Calls Tryd.prog 21 #[.slice x 2 2] w fun e w' => e = .returned (.int .i64 (add 1000000000000 [a, b])) ∧ w = w' :=
  plus_any x 2 2 [a, b] w rfl (by decide) hr

set_option maxRecDepth 100000 in
set_option maxHeartbeats 8000000 in
theorem parse_any (s : ByteArray) (hs : s.size ≤ maxLen) (w : World) (hT : Tb w) :
    Calls Tryd.prog 10 #[.string s] w fun e w' => e = .returned (.tuple #[.int .i64 (parse s.data.toList).1, .int .i64 (parse s.data.toList).2]) ∧ Below w.heap.size w w' := by
  have HT := Lib.hid hT
  clear hT
  have hsz := Lib.size_eq s
  obtain ⟨P, hP⟩ : ∃ P, P = parse s.data.toList := ⟨_, rfl⟩
  rw [← hP]
  by_cases h0 : s.size = 0
  · have hemp : s.toList.isEmpty = true := by rw [empty_iff, decide_eq_true_eq]; exact h0
    have HP : Hid (P = (0, 60)) := Lib.hid (by rw [hP]; unfold parse; rw [if_pos (List.eq_nil_of_length_eq_zero (by omega))])
    clear hP hsz h0
    go_enter Tryd.func10, Tryd.ntmps10
    go_wp2
    go_step3
    go_wp2
    try rw [Exit.noGoto_ret]
    go_ret2
    exact ⟨by rw [HP.out]; rfl, Below.refl _ _⟩
  · have hemp : s.toList.isEmpty = false := by rw [empty_iff, decide_eq_false_iff_not]; exact h0
    have HP : Hid (run (s.size + 1) s.data.toList 0 0 = P) := Lib.hid (by rw [hP]; unfold parse; rw [if_neg (fun h => h0 (by rw [hsz, h]; rfl)), hsz])
    clear hP hsz
    go_enter Tryd.func10, Tryd.ntmps10
    go_wp2
    go_step3
    go_wp2
    go_step3
    go_wp2
    go_loopg [0, 4, 5] (s.size + 1) (fun g sv tv kv wr => ∃ (x : ByteArray) (k : Nat) (t : Int), sv = .string x ∧ tv = .int .i64 t ∧ kv = .int .i64 (k : Int) ∧ x.size < g ∧ x.size ≤ s.size ∧ k ≤ 4 ∧ 0 ≤ t ∧ t ≤ 1000000000000 ∧ run g x.data.toList t k = P ∧ Below w.heap.size w wr)
    case atStart => exact ⟨s, 0, 0, rfl, rfl, rfl, by omega, Nat.le_refl _, by omega, by omega, by omega, HP.out, Below.refl _ _⟩
    case round =>
      obtain ⟨x, k, t, rfl, rfl, rfl, hxg, hxs, hk4, ht0, ht1, hrun, hb⟩ := hrel
      cases gk with
      | zero => omega
      | succ g =>
        have hxz := Lib.size_eq x
        have HB := Lib.hid hb
        clear hb hemp
        rw [run] at hrun
        by_cases hx0 : x.size = 0
        · have hemp : x.toList.isEmpty = true := by rw [empty_iff, decide_eq_true_eq]; exact hx0
          rw [if_pos (List.eq_nil_of_length_eq_zero (by omega))] at hrun
          have HR := Lib.hid hrun
          clear hrun hxz
          have C := Lib.hid (fun w => isTime_any t w)
          by_cases hc : cl t 1000000 = t
          · rw [if_pos hc] at HR
            rw [beq_iff_eq.2 hc] at C
            clear hc
            go_wp2_with (first | (go_at_call 12; (with_reducible refine (C.out _).mono ?_); rintro e w' ⟨rfl, rfl⟩) | fail)
            rw [Exit.noGoto_ret]
            go_ret2
            exact ⟨by rw [← HR.out]; rfl, HB.out⟩
          · rw [if_neg hc] at HR
            rw [beq_eq_false_iff_ne.2 hc] at C
            clear hc
            go_wp2_with (first | (go_at_call 12; (with_reducible refine (C.out _).mono ?_); rintro e w' ⟨rfl, rfl⟩) | fail)
            rw [Exit.noGoto_ret]
            go_ret2
            exact ⟨by rw [← HR.out]; rfl, HB.out⟩
        · have hemp : x.toList.isEmpty = false := by rw [empty_iff, decide_eq_false_iff_not]; exact hx0
          rw [if_neg (fun h => hx0 (by rw [hxz, h]; rfl))] at hrun
          have C : ∀ w, Tb w → Calls Tryd.prog 20 #[.string x] w fun e w' => e = .returned (cutA x.data.toList) ∧ Below w.heap.size w w' := fun w hT => cut_any x (by omega) w hT
          unfold cutA at C
          by_cases hok : cutOk x.data.toList = true
          · simp only [if_pos hok] at C
            obtain ⟨R, hR⟩ : ∃ R : ByteArray, R = ⟨(rst x.data.toList).toArray⟩ := ⟨_, rfl⟩
            have hRl : R.data.toList = rst x.data.toList := by rw [hR]
            have hRz := Lib.size_eq R
            have hle := rst_le x.data.toList
            have hN := cutN_bd hok
            rw [← hR] at C
            rw [← hRl] at hrun hle
            obtain ⟨N, hN2⟩ : ∃ N, N = cutN x.data.toList := ⟨_, rfl⟩
            rw [← hN2] at hN C hrun
            have CC := Lib.hid C
            clear hR C hRl hN2
            by_cases hR0 : R.size = 0
            · have hempR : R.toList.isEmpty = true := by rw [empty_iff, decide_eq_true_eq]; exact hR0
              rw [if_neg (fun h => h.2 (List.eq_nil_of_length_eq_zero (by omega)))] at hrun
              have HR := Lib.hid hrun
              clear hrun hxz hR0 hRz hle
              go_wp2_with (first | (go_at_call 20; (with_reducible refine (CC.out _ (HT.out.later (by (focus repeat (first | exact Below.refl _ _ | assumption | (exact Hid.out (by assumption)) | (with_reducible refine Below.drew ?_) | (with_reducible refine Base.below_drewN ?_ _) | (refine Below.from (below_one _) ?_) | (refine Below.from (below_conv _ _ _) ?_) | (refine Below.setCell ?_ (by simp <;> omega) _) | (refine Below.from (by assumption) ?_)))))).mono ?_); rintro e w1 ⟨rfl, p1⟩) | fail)
              rw [Exit.noGoto_ret]
              go_ret2
              exact ⟨by rw [← HR.out]; rfl, p1.from HB.out⟩
            · have hempR : R.toList.isEmpty = false := by rw [empty_iff, decide_eq_false_iff_not]; exact hR0
              rw [if_pos ⟨hok, fun h => hR0 (by rw [hRz, h]; rfl)⟩] at hrun
              have hRp : 0 < R.size := by omega
              have hRx : R.size ≤ x.size := by omega
              have HG : Hid (∀ h : 0 < R.size, (R[0]'h) = R.data.toList.getD 0 0) := Lib.hid (by
                intro h
                rw [ByteArray.getElem_eq_getElem_data, List.getD_eq_getElem?_getD, Array.getElem?_toList, Array.getElem?_eq_getElem (by simpa using h)]
                rfl)
              obtain ⟨c, hc⟩ : ∃ c, c = R.data.toList.getD 0 0 := ⟨_, rfl⟩
              rw [← hc] at hrun HG
              have HR := Lib.hid hrun
              clear hrun hxz hR0 hRz hle hc hok
              go_wp2_with (first | (go_at_call 20; (with_reducible refine (CC.out _ (HT.out.later (by (focus repeat (first | exact Below.refl _ _ | assumption | (exact Hid.out (by assumption)) | (with_reducible refine Below.drew ?_) | (with_reducible refine Base.below_drewN ?_ _) | (refine Below.from (below_one _) ?_) | (refine Below.from (below_conv _ _ _) ?_) | (refine Below.setCell ?_ (by simp <;> omega) _) | (refine Below.from (by assumption) ?_)))))).mono ?_); rintro e w1 ⟨rfl, p1⟩) | fail)
              have HB1 := Lib.hid (p1.from HB.out)
              clear p1
              go_loopg [0, 4, 5, 9] (4 - k) (fun g2 sv tv kv iv wy => ∃ j : Nat, j + g2 = 4 ∧ sv = .string x ∧ tv = .int .i64 t ∧ kv = .int .i64 (k : Int) ∧ iv = .int .i64 (j : Int) ∧ k ≤ j ∧ (ix c < k ∨ j ≤ ix c) ∧ Below w.heap.size w wy)
              case atStart => exact ⟨k, by omega, rfl, rfl, rfl, rfl, Nat.le_refl _, by omega, HB1.out⟩
              case round =>
                obtain ⟨j, hj4, rfl, rfl, rfl, rfl, hkj, hix, hb2⟩ := hrel
                have HB2 := Lib.hid hb2
                clear hb2
                cases gk with
                | zero =>
                  obtain rfl : j = 4 := by omega
                  have HR2 : Hid ((0, 60) = P) := Lib.hid (by rw [← HR.out, if_neg (by omega)])
                  clear HR
                  go_wp2
                  go_ret2
                  exact ⟨by rw [← HR2.out]; rfl, HB2.out⟩
                | succ g2 =>
                  have HU := Lib.hid (HT.out.later HB2.out).2.2
                  have hcases : j = 0 ∨ j = 1 ∨ j = 2 ∨ j = 3 := by omega
                  rcases hcases with rfl | rfl | rfl | rfl
                  · have u0 := HU.out.c0
                    have u1 := HU.out.c1
                    have HX := Lib.hid (ix_sg c 0 (by decide))
                    go_wp2
                    go_quiet (fail)
                    go_wp2_with (first
                      | (go_at_call 22; (with_reducible refine (times_any _ _ _).mono ?_); rintro e w' ⟨rfl, rfl⟩)
                      | (go_at_call 21; (with_reducible refine (plus_two t (mulc 1000000000000 N 86400) _ _ ?_).mono ?_); (focus (exact reads_two rfl _ _ _)); rintro e w' ⟨rfl, rfl⟩)
                      | fail)
                    · rename_i hx
                      rw [HG.out, beq_iff_eq] at hx
                      have hi : ix c = 0 := HX.out.2 (UInt8.toNat_inj.1 (by show c.toNat = 100; omega))
                      have HR2 := Lib.hid HR.out
                      rw [hi, if_pos ⟨hkj, by decide⟩] at HR2
                      have ha := add_bd 1000000000000 (by decide) [t, mulc 1000000000000 N 86400]
                      go_roundg g
                      case measure => omega
                      case rel => exact ⟨R.extract 1 R.size, 1, _, rfl, rfl, rfl, by rw [ByteArray.size_extract]; omega, by rw [ByteArray.size_extract]; omega, by decide, ha.1, ha.2, by rw [Lib.extract_data, List.take_of_length_le (by rw [List.length_drop, ← Lib.size_eq]; omega)]; exact HR2.out, by (focus repeat (first | exact Below.refl _ _ | assumption | (exact Hid.out (by assumption)) | (with_reducible refine Below.drew ?_) | (with_reducible refine Base.below_drewN ?_ _) | (refine Below.from (below_one _) ?_) | (refine Below.from (below_conv _ _ _) ?_) | (refine Below.setCell ?_ (by simp <;> omega) _) | (refine Below.from (by assumption) ?_)))⟩
                    · rename_i hx
                      rw [HG.out, beq_eq_false_iff_ne] at hx
                      have hi : ix c ≠ 0 := fun h => hx (by rw [HX.out.1 h]; rfl)
                      go_roundg g2
                      case measure => omega
                      case rel => exact ⟨1, by omega, rfl, rfl, rfl, rfl, by omega, by omega, by (focus repeat (first | exact Below.refl _ _ | assumption | (exact Hid.out (by assumption)) | (with_reducible refine Below.drew ?_) | (with_reducible refine Base.below_drewN ?_ _) | (refine Below.from (below_one _) ?_) | (refine Below.from (below_conv _ _ _) ?_) | (refine Below.setCell ?_ (by simp <;> omega) _) | (refine Below.from (by assumption) ?_)))⟩
                  · have u0 := HU.out.c2
                    have u1 := HU.out.c3
                    have HX := Lib.hid (ix_sg c 1 (by decide))
                    go_wp2
                    go_quiet (fail)
                    go_wp2_with (first
                      | (go_at_call 22; (with_reducible refine (times_any _ _ _).mono ?_); rintro e w' ⟨rfl, rfl⟩)
                      | (go_at_call 21; (with_reducible refine (plus_two t (mulc 1000000000000 N 3600) _ _ ?_).mono ?_); (focus (exact reads_two rfl _ _ _)); rintro e w' ⟨rfl, rfl⟩)
                      | fail)
                    · rename_i hx
                      rw [HG.out, beq_iff_eq] at hx
                      have hi : ix c = 1 := HX.out.2 (UInt8.toNat_inj.1 (by show c.toNat = 104; omega))
                      have HR2 := Lib.hid HR.out
                      rw [hi, if_pos ⟨hkj, by decide⟩] at HR2
                      have ha := add_bd 1000000000000 (by decide) [t, mulc 1000000000000 N 3600]
                      go_roundg g
                      case measure => omega
                      case rel => exact ⟨R.extract 1 R.size, 2, _, rfl, rfl, rfl, by rw [ByteArray.size_extract]; omega, by rw [ByteArray.size_extract]; omega, by decide, ha.1, ha.2, by rw [Lib.extract_data, List.take_of_length_le (by rw [List.length_drop, ← Lib.size_eq]; omega)]; exact HR2.out, by (focus repeat (first | exact Below.refl _ _ | assumption | (exact Hid.out (by assumption)) | (with_reducible refine Below.drew ?_) | (with_reducible refine Base.below_drewN ?_ _) | (refine Below.from (below_one _) ?_) | (refine Below.from (below_conv _ _ _) ?_) | (refine Below.setCell ?_ (by simp <;> omega) _) | (refine Below.from (by assumption) ?_)))⟩
                    · rename_i hx
                      rw [HG.out, beq_eq_false_iff_ne] at hx
                      have hi : ix c ≠ 1 := fun h => hx (by rw [HX.out.1 h]; rfl)
                      go_roundg g2
                      case measure => omega
                      case rel => exact ⟨2, by omega, rfl, rfl, rfl, rfl, by omega, by omega, by (focus repeat (first | exact Below.refl _ _ | assumption | (exact Hid.out (by assumption)) | (with_reducible refine Below.drew ?_) | (with_reducible refine Base.below_drewN ?_ _) | (refine Below.from (below_one _) ?_) | (refine Below.from (below_conv _ _ _) ?_) | (refine Below.setCell ?_ (by simp <;> omega) _) | (refine Below.from (by assumption) ?_)))⟩
                  · have u0 := HU.out.c4
                    have u1 := HU.out.c5
                    have HX := Lib.hid (ix_sg c 2 (by decide))
                    go_wp2
                    go_quiet (fail)
                    go_wp2_with (first
                      | (go_at_call 22; (with_reducible refine (times_any _ _ _).mono ?_); rintro e w' ⟨rfl, rfl⟩)
                      | (go_at_call 21; (with_reducible refine (plus_two t (mulc 1000000000000 N 60) _ _ ?_).mono ?_); (focus (exact reads_two rfl _ _ _)); rintro e w' ⟨rfl, rfl⟩)
                      | fail)
                    · rename_i hx
                      rw [HG.out, beq_iff_eq] at hx
                      have hi : ix c = 2 := HX.out.2 (UInt8.toNat_inj.1 (by show c.toNat = 109; omega))
                      have HR2 := Lib.hid HR.out
                      rw [hi, if_pos ⟨hkj, by decide⟩] at HR2
                      have ha := add_bd 1000000000000 (by decide) [t, mulc 1000000000000 N 60]
                      go_roundg g
                      case measure => omega
                      case rel => exact ⟨R.extract 1 R.size, 3, _, rfl, rfl, rfl, by rw [ByteArray.size_extract]; omega, by rw [ByteArray.size_extract]; omega, by decide, ha.1, ha.2, by rw [Lib.extract_data, List.take_of_length_le (by rw [List.length_drop, ← Lib.size_eq]; omega)]; exact HR2.out, by (focus repeat (first | exact Below.refl _ _ | assumption | (exact Hid.out (by assumption)) | (with_reducible refine Below.drew ?_) | (with_reducible refine Base.below_drewN ?_ _) | (refine Below.from (below_one _) ?_) | (refine Below.from (below_conv _ _ _) ?_) | (refine Below.setCell ?_ (by simp <;> omega) _) | (refine Below.from (by assumption) ?_)))⟩
                    · rename_i hx
                      rw [HG.out, beq_eq_false_iff_ne] at hx
                      have hi : ix c ≠ 2 := fun h => hx (by rw [HX.out.1 h]; rfl)
                      go_roundg g2
                      case measure => omega
                      case rel => exact ⟨3, by omega, rfl, rfl, rfl, rfl, by omega, by omega, by (focus repeat (first | exact Below.refl _ _ | assumption | (exact Hid.out (by assumption)) | (with_reducible refine Below.drew ?_) | (with_reducible refine Base.below_drewN ?_ _) | (refine Below.from (below_one _) ?_) | (refine Below.from (below_conv _ _ _) ?_) | (refine Below.setCell ?_ (by simp <;> omega) _) | (refine Below.from (by assumption) ?_)))⟩
                  · have u0 := HU.out.c6
                    have u1 := HU.out.c7
                    have HX := Lib.hid (ix_sg c 3 (by decide))
                    go_wp2
                    go_quiet (fail)
                    go_wp2_with (first
                      | (go_at_call 22; (with_reducible refine (times_any _ _ _).mono ?_); rintro e w' ⟨rfl, rfl⟩)
                      | (go_at_call 21; (with_reducible refine (plus_two t (mulc 1000000000000 N 1) _ _ ?_).mono ?_); (focus (exact reads_two rfl _ _ _)); rintro e w' ⟨rfl, rfl⟩)
                      | fail)
                    · rename_i hx
                      rw [HG.out, beq_iff_eq] at hx
                      have hi : ix c = 3 := HX.out.2 (UInt8.toNat_inj.1 (by show c.toNat = 115; omega))
                      have HR2 := Lib.hid HR.out
                      rw [hi, if_pos ⟨hkj, by decide⟩] at HR2
                      have ha := add_bd 1000000000000 (by decide) [t, mulc 1000000000000 N 1]
                      go_roundg g
                      case measure => omega
                      case rel => exact ⟨R.extract 1 R.size, 4, _, rfl, rfl, rfl, by rw [ByteArray.size_extract]; omega, by rw [ByteArray.size_extract]; omega, by decide, ha.1, ha.2, by rw [Lib.extract_data, List.take_of_length_le (by rw [List.length_drop, ← Lib.size_eq]; omega)]; exact HR2.out, by (focus repeat (first | exact Below.refl _ _ | assumption | (exact Hid.out (by assumption)) | (with_reducible refine Below.drew ?_) | (with_reducible refine Base.below_drewN ?_ _) | (refine Below.from (below_one _) ?_) | (refine Below.from (below_conv _ _ _) ?_) | (refine Below.setCell ?_ (by simp <;> omega) _) | (refine Below.from (by assumption) ?_)))⟩
                    · rename_i hx
                      rw [HG.out, beq_eq_false_iff_ne] at hx
                      have hi : ix c ≠ 3 := fun h => hx (by rw [HX.out.1 h]; rfl)
                      go_roundg g2
                      case measure => omega
                      case rel => exact ⟨4, by omega, rfl, rfl, rfl, rfl, by omega, by omega, by (focus repeat (first | exact Below.refl _ _ | assumption | (exact Hid.out (by assumption)) | (with_reducible refine Below.drew ?_) | (with_reducible refine Base.below_drewN ?_ _) | (refine Below.from (below_one _) ?_) | (refine Below.from (below_conv _ _ _) ?_) | (refine Below.setCell ?_ (by simp <;> omega) _) | (refine Below.from (by assumption) ?_)))⟩
          · simp only [if_neg hok] at C
            rw [if_neg (fun h => hok h.1)] at hrun
            have HR := Lib.hid hrun
            have CC := Lib.hid C
            clear hrun hxz C hok
            go_wp2_with (first | (go_at_call 20; (with_reducible refine (CC.out _ (HT.out.later (by (focus repeat (first | exact Below.refl _ _ | assumption | (exact Hid.out (by assumption)) | (with_reducible refine Below.drew ?_) | (with_reducible refine Base.below_drewN ?_ _) | (refine Below.from (below_one _) ?_) | (refine Below.from (below_conv _ _ _) ?_) | (refine Below.setCell ?_ (by simp <;> omega) _) | (refine Below.from (by assumption) ?_)))))).mono ?_); rintro e w1 ⟨rfl, p1⟩) | fail)
            rw [Exit.noGoto_ret]
            go_ret2
            exact ⟨by rw [← HR.out]; rfl, p1.from HB.out⟩

end Go.Proofs.YtgpgpgechilbkaaDoor.Hours
