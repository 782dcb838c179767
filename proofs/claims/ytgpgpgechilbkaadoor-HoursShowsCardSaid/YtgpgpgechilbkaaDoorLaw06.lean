/-
  The walks of the statements of layer 6.
-/
import Derived.Test.YtgpgpgechilbkaaDoorHoursRef
namespace Go.Proofs.YtgpgpgechilbkaaDoor.Hours
open Go.RowKit
open Base Sat HoursLib
set_option linter.unusedVariables false
set_option linter.unusedSimpArgs false

theorem show_5400 : showL 5400 = [49, 104, 51, 48, 109] := by
  have e : showL 5400 = [] ++ pc 0 5400 ++ pc 1 5400 ++ pc 2 1800 ++ pc 3 0 := by
    rw [showL_ne (by decide)]; rfl
  have e0 : pc 0 5400 = [] := by unfold pc; rw [if_neg (by decide)]
  have e1 : pc 1 5400 = [49, 104] := by
    unfold pc
    rw [if_pos (by decide), show (5400 : Int) / tk 1 = 1 from by decide]
    show Go.Lib.itoa 1 ++ [104] = _
    rw [itoa_nat 1 (by decide), show (1 : Int).toNat = 1 from rfl, Go.Lib.decDigits_one (by decide)]
    decide
  have e2 : pc 2 1800 = [51, 48, 109] := by
    unfold pc
    rw [if_pos (by decide), show (1800 : Int) / tk 2 = 30 from by decide]
    show Go.Lib.itoa 30 ++ [109] = _
    rw [itoa_nat 30 (by decide), show (30 : Int).toNat = 30 from rfl, Go.Lib.decDigits_two (by decide) (by decide)]
    decide
  have e3 : pc 3 0 = [] := by unfold pc; rw [if_neg (by decide)]
  rw [e, e0, e1, e2, e3]
  rfl

set_option maxRecDepth 100000 in
set_option maxHeartbeats 4000000 in
theorem awake_any (w : World) (hT : Tb w) :
    Calls Tryd.prog 8 #[] w fun e w' => e = .returned (.bool true) ∧ Below w.heap.size w w' := by
  have HT := Lib.hid hT
  clear hT
  have p1 : parse [49, 104, 51, 48, 109] = (5400, 0) := by decide
  have p2 : parse [57, 48, 109] = (5400, 0) := by decide
  have p3 : parse [51, 48, 109, 49, 104] = (0, 60) := by decide
  have C1 : Hid (∀ w, Tb w → Calls Tryd.prog 10 #[.string ⟨#[49, 104, 51, 48, 109]⟩] w fun e w' => e = .returned (.tuple #[.int .i64 5400, .int .i64 0]) ∧ Below w.heap.size w w') := Lib.hid (fun w hT => by
    have := parse_any ⟨#[49, 104, 51, 48, 109]⟩ (by decide) w hT
    rw [show (⟨#[49, 104, 51, 48, 109]⟩ : ByteArray).data.toList = [49, 104, 51, 48, 109] from rfl, p1] at this
    exact this)
  have C2 : Hid (∀ w, Tb w → Calls Tryd.prog 6 #[.int .i64 5400] w fun e w' => e = .returned (.tuple #[.string ⟨#[49, 104, 51, 48, 109]⟩, .int .i64 0]) ∧ Below w.heap.size w w') := Lib.hid (fun w hT => by
    have := show_any 5400 w hT
    unfold shB shE at this
    rw [if_pos ((cl_time 5400).2 (by decide)), if_pos ((cl_time 5400).2 (by decide)), show_5400] at this
    exact this)
  have C3 : Hid (∀ w, Tb w → Calls Tryd.prog 11 #[.string ⟨#[57, 48, 109]⟩] w fun e w' => e = .returned (.tuple #[.string ⟨#[49, 104, 51, 48, 109]⟩, .int .i64 0]) ∧ Below w.heap.size w w') := Lib.hid (fun w hT => by
    have := normal_any ⟨#[57, 48, 109]⟩ (by decide) w hT
    unfold nmB at this
    rw [show (⟨#[57, 48, 109]⟩ : ByteArray).data.toList = [57, 48, 109] from rfl, p2, if_pos rfl, show_5400] at this
    exact this)
  have C4 : Hid (∀ w, Tb w → Calls Tryd.prog 10 #[.string ⟨#[51, 48, 109, 49, 104]⟩] w fun e w' => e = .returned (.tuple #[.int .i64 0, .int .i64 60]) ∧ Below w.heap.size w w') := Lib.hid (fun w hT => by
    have := parse_any ⟨#[51, 48, 109, 49, 104]⟩ (by decide) w hT
    rw [show (⟨#[51, 48, 109, 49, 104]⟩ : ByteArray).data.toList = [51, 48, 109, 49, 104] from rfl, p3] at this
    exact this)
  clear p1 p2 p3
  go_enter Tryd.func8, Tryd.ntmps8
  go_wp2_with (first
    | (go_at_call 10; (with_reducible refine (C1.out _ HT.out).mono ?_); rintro e w1 ⟨rfl, p1⟩)
    | (go_at_call 6; (with_reducible refine (C2.out _ (HT.out.later (by (focus repeat (first | exact Below.refl _ _ | assumption | (exact Hid.out (by assumption)) | (with_reducible refine Below.drew ?_) | (with_reducible refine Base.below_drewN ?_ _) | (refine Below.from (below_one _) ?_) | (refine Below.from (below_conv _ _ _) ?_) | (refine Below.setCell ?_ (by simp <;> omega) _) | (refine Below.from (by assumption) ?_)))))).mono ?_); rintro e w2 ⟨rfl, p2⟩)
    | (go_at_call 11; (with_reducible refine (C3.out _ (HT.out.later (by (focus repeat (first | exact Below.refl _ _ | assumption | (exact Hid.out (by assumption)) | (with_reducible refine Below.drew ?_) | (with_reducible refine Base.below_drewN ?_ _) | (refine Below.from (below_one _) ?_) | (refine Below.from (below_conv _ _ _) ?_) | (refine Below.setCell ?_ (by simp <;> omega) _) | (refine Below.from (by assumption) ?_)))))).mono ?_); rintro e w3 ⟨rfl, p3⟩)
    | (go_at_call 10; (with_reducible refine (C4.out _ (HT.out.later (by (focus repeat (first | exact Below.refl _ _ | assumption | (exact Hid.out (by assumption)) | (with_reducible refine Below.drew ?_) | (with_reducible refine Base.below_drewN ?_ _) | (refine Below.from (below_one _) ?_) | (refine Below.from (below_conv _ _ _) ?_) | (refine Below.setCell ?_ (by simp <;> omega) _) | (refine Below.from (by assumption) ?_)))))).mono ?_); rintro e w4 ⟨rfl, p4⟩)
    | fail)
  go_ret
  exact ⟨rfl, by (focus repeat (first | exact Below.refl _ _ | assumption | (exact Hid.out (by assumption)) | (with_reducible refine Below.drew ?_) | (with_reducible refine Base.below_drewN ?_ _) | (refine Below.from (below_one _) ?_) | (refine Below.from (below_conv _ _ _) ?_) | (refine Below.setCell ?_ (by simp <;> omega) _) | (refine Below.from (by assumption) ?_)))⟩

set_option maxRecDepth 100000 in
set_option maxHeartbeats 4000000 in
theorem hoursShows_any (n : Int) (w : World) (hT : Tb w) :
    Calls Tryd.prog 3 #[.int .i64 n] w fun e w' => e = .returned (.bool true) ∧ Below w.heap.size w w' := by
  have HT := Lib.hid hT
  clear hT
  have C1 := Lib.hid (fun w hT => show_any n w hT)
  have C2 := Lib.hid (fun w => rshow_any n w)
  obtain ⟨X, hX⟩ : ∃ X, X = shB n := ⟨_, rfl⟩
  obtain ⟨E, hE⟩ : ∃ E, E = shE n := ⟨_, rfl⟩
  rw [← hX, ← hE] at C1 C2
  clear hX hE
  have hXX : (X.toList == X.toList) = true := beq_self_eq_true _
  have hEE : (E == E) = true := beq_self_eq_true _
  go_enter Tryd.func3, Tryd.ntmps3
  go_wp2_with (first
    | (go_at_call 6; (with_reducible refine (C1.out _ HT.out).mono ?_); rintro e w1 ⟨rfl, p1⟩)
    | (go_at_call 7; (with_reducible refine (C2.out _).mono ?_); rintro e w2 ⟨rfl, p2⟩)
    | (go_at_call 8; (with_reducible refine (awake_any _ (HT.out.later (by (focus repeat (first | exact Below.refl _ _ | assumption | (exact Hid.out (by assumption)) | (with_reducible refine Below.drew ?_) | (with_reducible refine Base.below_drewN ?_ _) | (refine Below.from (below_one _) ?_) | (refine Below.from (below_conv _ _ _) ?_) | (refine Below.setCell ?_ (by simp <;> omega) _) | (refine Below.from (by assumption) ?_)))))).mono ?_); rintro e w9 ⟨rfl, p9⟩)
    | fail)
  go_ret
  exact ⟨rfl, by (focus repeat (first | exact Below.refl _ _ | assumption | (exact Hid.out (by assumption)) | (with_reducible refine Below.drew ?_) | (with_reducible refine Base.below_drewN ?_ _) | (refine Below.from (below_one _) ?_) | (refine Below.from (below_conv _ _ _) ?_) | (refine Below.setCell ?_ (by simp <;> omega) _) | (refine Below.from (by assumption) ?_)))⟩

set_option maxRecDepth 100000 in
set_option maxHeartbeats 4000000 in
theorem hoursBack_any (n : Int) (w : World) (hT : Tb w) :
    Calls Tryd.prog 4 #[.int .i64 n] w fun e w' => e = .returned (.bool true) ∧ Below w.heap.size w w' := by
  have HT := Lib.hid hT
  clear hT
  have C1 := fun w hT => show_any n w hT
  have hbs := parse_show n
  have hls := show_length n
  unfold shB shE at C1
  by_cases ht : cl n 1000000 = n
  · have hb := (cl_time n).1 ht
    simp only [if_pos ht] at C1
    have hbs := hbs hb.1 hb.2
    have hls := hls hb.1 hb.2
    obtain ⟨X, hX⟩ : ∃ X : ByteArray, X = ⟨(showL n).toArray⟩ := ⟨_, rfl⟩
    have hXl : X.data.toList = showL n := by rw [hX]
    have hXs : X.size ≤ maxLen := by rw [Lib.size_eq, hXl]; unfold maxLen; omega
    have C2 := fun w hT => parse_any X hXs w hT
    rw [hXl, hbs] at C2
    dsimp only at C2
    rw [← hX] at C1
    have CC1 := Lib.hid C1
    have CC2 := Lib.hid C2
    clear hX hXl hbs hls C1 C2 ht hXs
    go_enter Tryd.func4, Tryd.ntmps4
    go_wp2_with (first
      | (go_at_call 6; (with_reducible refine (CC1.out _ HT.out).mono ?_); rintro e w1 ⟨rfl, p1⟩)
      | (go_at_call 10; (with_reducible refine (CC2.out _ (HT.out.later (by (focus repeat (first | exact Below.refl _ _ | assumption | (exact Hid.out (by assumption)) | (with_reducible refine Below.drew ?_) | (with_reducible refine Base.below_drewN ?_ _) | (refine Below.from (below_one _) ?_) | (refine Below.from (below_conv _ _ _) ?_) | (refine Below.setCell ?_ (by simp <;> omega) _) | (refine Below.from (by assumption) ?_)))))).mono ?_); rintro e w2 ⟨rfl, p2⟩)
      | (go_at_call 8; (with_reducible refine (awake_any _ (HT.out.later (by (focus repeat (first | exact Below.refl _ _ | assumption | (exact Hid.out (by assumption)) | (with_reducible refine Below.drew ?_) | (with_reducible refine Base.below_drewN ?_ _) | (refine Below.from (below_one _) ?_) | (refine Below.from (below_conv _ _ _) ?_) | (refine Below.setCell ?_ (by simp <;> omega) _) | (refine Below.from (by assumption) ?_)))))).mono ?_); rintro e w9 ⟨rfl, p9⟩)
      | fail)
    go_ret
    exact ⟨rfl, by (focus repeat (first | exact Below.refl _ _ | assumption | (exact Hid.out (by assumption)) | (with_reducible refine Below.drew ?_) | (with_reducible refine Base.below_drewN ?_ _) | (refine Below.from (below_one _) ?_) | (refine Below.from (below_conv _ _ _) ?_) | (refine Below.setCell ?_ (by simp <;> omega) _) | (refine Below.from (by assumption) ?_)))⟩
  · simp only [if_neg ht] at C1
    have CC1 := Lib.hid C1
    have CT := Lib.hid (fun w => time_any n w)
    obtain ⟨M, hM⟩ : ∃ M, M = cl n 1000000 := ⟨_, rfl⟩
    rw [← hM] at CT ht
    have hne : (n != M) = true := by rw [bne_iff_ne]; exact fun h => ht h.symm
    clear hM C1 hbs hls ht
    go_enter Tryd.func4, Tryd.ntmps4
    go_wp2_with (first
      | (go_at_call 6; (with_reducible refine (CC1.out _ HT.out).mono ?_); rintro e w1 ⟨rfl, p1⟩)
      | (go_at_call 9; (with_reducible refine (CT.out _).mono ?_); rintro e w2 ⟨rfl, rfl⟩)
      | (go_at_call 8; (with_reducible refine (awake_any _ (HT.out.later (by (focus repeat (first | exact Below.refl _ _ | assumption | (exact Hid.out (by assumption)) | (with_reducible refine Below.drew ?_) | (with_reducible refine Base.below_drewN ?_ _) | (refine Below.from (below_one _) ?_) | (refine Below.from (below_conv _ _ _) ?_) | (refine Below.setCell ?_ (by simp <;> omega) _) | (refine Below.from (by assumption) ?_)))))).mono ?_); rintro e w9 ⟨rfl, p9⟩)
      | fail)
    go_ret
    exact ⟨rfl, by (focus repeat (first | exact Below.refl _ _ | assumption | (exact Hid.out (by assumption)) | (with_reducible refine Below.drew ?_) | (with_reducible refine Base.below_drewN ?_ _) | (refine Below.from (below_one _) ?_) | (refine Below.from (below_conv _ _ _) ?_) | (refine Below.setCell ?_ (by simp <;> omega) _) | (refine Below.from (by assumption) ?_)))⟩

end Go.Proofs.YtgpgpgechilbkaaDoor.Hours
