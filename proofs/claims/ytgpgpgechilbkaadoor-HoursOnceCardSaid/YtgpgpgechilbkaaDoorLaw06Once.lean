/-
  The walk of the statement HoursOnce.
-/
import Derived.Test.YtgpgpgechilbkaaDoorLaw06
namespace Go.Proofs.YtgpgpgechilbkaaDoor.Hours
open Go.RowKit
open Base Sat HoursLib
set_option linter.unusedVariables false
set_option linter.unusedSimpArgs false

theorem once_ok (s : ByteArray) (h : (parse s.data.toList).2 = 0) : ∃ (m : Int) (A : ByteArray), 0 ≤ m ∧ m ≤ 1000000 ∧ parse s.data.toList = (m, 0) ∧ nmB s.data.toList = A ∧ A.data.toList = showL m ∧ A.size ≤ maxLen ∧ nmB A.data.toList = A ∧ parse A.data.toList = (m, 0) := by
  obtain ⟨⟨m, e⟩, hP⟩ : ∃ P, P = parse s.data.toList := ⟨_, rfl⟩
  have hok := parse_ok s.data.toList
  rw [← hP] at hok h
  dsimp only at hok h
  subst h
  have hb : 0 ≤ m ∧ m ≤ 1000000 := by omega
  have hs := parse_show m hb.1 hb.2
  have hl := show_length m hb.1 hb.2
  have hn : nmB s.data.toList = ⟨(showL m).toArray⟩ := by unfold nmB; rw [← hP, if_pos rfl]
  refine ⟨m, ⟨(showL m).toArray⟩, hb.1, hb.2, hP.symm, hn, rfl, ?_, ?_, hs⟩
  · rw [Lib.size_eq]; unfold maxLen; show (showL m).length ≤ _; omega
  · unfold nmB
    rw [show (⟨(showL m).toArray⟩ : ByteArray).data.toList = showL m from rfl, hs, if_pos rfl]
theorem once_no (s : ByteArray) (h : (parse s.data.toList).2 ≠ 0) : ∃ E : Int, E ≠ 0 ∧ parse s.data.toList = (0, E) ∧ nmB s.data.toList = ⟨#[]⟩ := by
  obtain ⟨⟨m, e⟩, hP⟩ : ∃ P, P = parse s.data.toList := ⟨_, rfl⟩
  have hok := parse_ok s.data.toList
  rw [← hP] at hok h
  dsimp only at hok h
  have hn : nmB s.data.toList = ⟨#[]⟩ := by unfold nmB; rw [← hP, if_neg h]
  have hm : m = 0 := by omega
  subst hm
  exact ⟨e, h, hP.symm, hn⟩

set_option maxRecDepth 100000 in
set_option maxHeartbeats 16000000 in
theorem hoursOnce_any (s t : ByteArray) (hs : s.size ≤ maxLen) (ht : t.size ≤ maxLen) (w : World) (hT : Tb w) :
    Calls Tryd.prog 5 #[.string s, .string t] w fun e w' => e = .returned (.bool true) ∧ Below w.heap.size w w' := by
  have HT := Lib.hid hT
  clear hT
  by_cases h1 : 10000 < s.size
  · go_enter Tryd.func5, Tryd.ntmps5
    go_wp2_with (first
      | (go_at_call 8; (with_reducible refine (awake_any _ (HT.out.later (by (focus repeat (first | exact Below.refl _ _ | assumption | (exact Hid.out (by assumption)) | (with_reducible refine Below.drew ?_) | (with_reducible refine Base.below_drewN ?_ _) | (refine Below.from (below_one _) ?_) | (refine Below.from (below_conv _ _ _) ?_) | (refine Below.setCell ?_ (by simp <;> omega) _) | (refine Below.from (by assumption) ?_)))))).mono ?_); rintro e w9 ⟨rfl, p9⟩)
      | fail)
    go_ret
    exact ⟨rfl, by (focus repeat (first | exact Below.refl _ _ | assumption | (exact Hid.out (by assumption)) | (with_reducible refine Below.drew ?_) | (with_reducible refine Base.below_drewN ?_ _) | (refine Below.from (below_one _) ?_) | (refine Below.from (below_conv _ _ _) ?_) | (refine Below.setCell ?_ (by simp <;> omega) _) | (refine Below.from (by assumption) ?_)))⟩
  by_cases h2 : 10000 < t.size
  · go_enter Tryd.func5, Tryd.ntmps5
    go_wp2_with (first
      | (go_at_call 8; (with_reducible refine (awake_any _ (HT.out.later (by (focus repeat (first | exact Below.refl _ _ | assumption | (exact Hid.out (by assumption)) | (with_reducible refine Below.drew ?_) | (with_reducible refine Base.below_drewN ?_ _) | (refine Below.from (below_one _) ?_) | (refine Below.from (below_conv _ _ _) ?_) | (refine Below.setCell ?_ (by simp <;> omega) _) | (refine Below.from (by assumption) ?_)))))).mono ?_); rintro e w9 ⟨rfl, p9⟩)
      | fail)
    go_ret
    exact ⟨rfl, by (focus repeat (first | exact Below.refl _ _ | assumption | (exact Hid.out (by assumption)) | (with_reducible refine Below.drew ?_) | (with_reducible refine Base.below_drewN ?_ _) | (refine Below.from (below_one _) ?_) | (refine Below.from (below_conv _ _ _) ?_) | (refine Below.setCell ?_ (by simp <;> omega) _) | (refine Below.from (by assumption) ?_)))⟩
  have N1 := fun w hT => normal_any s hs w hT
  have N2 := fun w hT => normal_any t ht w hT
  have P1 := fun w hT => parse_any s hs w hT
  have P2 := fun w hT => parse_any t ht w hT
  by_cases ok1 : (parse s.data.toList).2 = 0
  · obtain ⟨m, A, hm0, hm1, e1, e2, e3, e4, e5, e6⟩ := once_ok s ok1
    have N3 := fun w hT => normal_any A e4 w hT
    rw [e5, e6] at N3
    rw [e1, e2] at N1
    rw [e1] at P1
    dsimp only at N1 P1 N3
    have hAA : (A.toList == A.toList) = true := beq_self_eq_true _
    have hmm : (m == m) = true := beq_self_eq_true _
    by_cases ok2 : (parse t.data.toList).2 = 0
    · obtain ⟨n, B, hn0, hn1, f1, f2, f3, f4, f5, f6⟩ := once_ok t ok2
      rw [f1, f2] at N2
      rw [f1] at P2
      dsimp only at N2 P2
      by_cases hmn : m = n
      · subst hmn
        have hAB : B = A := by rw [← Lib.mk_data A, ← Lib.mk_data B, e3, f3]
        subst hAB
        have NN1 := Lib.hid N1
        have NN2 := Lib.hid N2
        have NN3 := Lib.hid N3
        have PP1 := Lib.hid P1
        have PP2 := Lib.hid P2
        clear N1 N2 N3 P1 P2 e1 e2 e3 e4 e5 e6 f1 f2 f3 f4 f5 f6 ok1 ok2
        go_enter Tryd.func5, Tryd.ntmps5
        go_wp2_with (first
          | (go_at_call 11; (with_reducible refine (NN1.out _ (HT.out.later (by (focus repeat (first | exact Below.refl _ _ | assumption | (exact Hid.out (by assumption)) | (with_reducible refine Below.drew ?_) | (with_reducible refine Base.below_drewN ?_ _) | (refine Below.from (below_one _) ?_) | (refine Below.from (below_conv _ _ _) ?_) | (refine Below.setCell ?_ (by simp <;> omega) _) | (refine Below.from (by assumption) ?_)))))).mono ?_); rintro e w1 ⟨rfl, p1⟩)
          | (go_at_call 11; (with_reducible refine (NN2.out _ (HT.out.later (by (focus repeat (first | exact Below.refl _ _ | assumption | (exact Hid.out (by assumption)) | (with_reducible refine Below.drew ?_) | (with_reducible refine Base.below_drewN ?_ _) | (refine Below.from (below_one _) ?_) | (refine Below.from (below_conv _ _ _) ?_) | (refine Below.setCell ?_ (by simp <;> omega) _) | (refine Below.from (by assumption) ?_)))))).mono ?_); rintro e w2 ⟨rfl, p2⟩)
          | (go_at_call 10; (with_reducible refine (PP1.out _ (HT.out.later (by (focus repeat (first | exact Below.refl _ _ | assumption | (exact Hid.out (by assumption)) | (with_reducible refine Below.drew ?_) | (with_reducible refine Base.below_drewN ?_ _) | (refine Below.from (below_one _) ?_) | (refine Below.from (below_conv _ _ _) ?_) | (refine Below.setCell ?_ (by simp <;> omega) _) | (refine Below.from (by assumption) ?_)))))).mono ?_); rintro e w3 ⟨rfl, p3⟩)
          | (go_at_call 10; (with_reducible refine (PP2.out _ (HT.out.later (by (focus repeat (first | exact Below.refl _ _ | assumption | (exact Hid.out (by assumption)) | (with_reducible refine Below.drew ?_) | (with_reducible refine Base.below_drewN ?_ _) | (refine Below.from (below_one _) ?_) | (refine Below.from (below_conv _ _ _) ?_) | (refine Below.setCell ?_ (by simp <;> omega) _) | (refine Below.from (by assumption) ?_)))))).mono ?_); rintro e w4 ⟨rfl, p4⟩)
          | (go_at_call 11; (with_reducible refine (NN3.out _ (HT.out.later (by (focus repeat (first | exact Below.refl _ _ | assumption | (exact Hid.out (by assumption)) | (with_reducible refine Below.drew ?_) | (with_reducible refine Base.below_drewN ?_ _) | (refine Below.from (below_one _) ?_) | (refine Below.from (below_conv _ _ _) ?_) | (refine Below.setCell ?_ (by simp <;> omega) _) | (refine Below.from (by assumption) ?_)))))).mono ?_); rintro e w5 ⟨rfl, p5⟩)
          | (go_at_call 8; (with_reducible refine (awake_any _ (HT.out.later (by (focus repeat (first | exact Below.refl _ _ | assumption | (exact Hid.out (by assumption)) | (with_reducible refine Below.drew ?_) | (with_reducible refine Base.below_drewN ?_ _) | (refine Below.from (below_one _) ?_) | (refine Below.from (below_conv _ _ _) ?_) | (refine Below.setCell ?_ (by simp <;> omega) _) | (refine Below.from (by assumption) ?_)))))).mono ?_); rintro e w9 ⟨rfl, p9⟩)
          | fail)
        go_ret
        exact ⟨rfl, by (focus repeat (first | exact Below.refl _ _ | assumption | (exact Hid.out (by assumption)) | (with_reducible refine Below.drew ?_) | (with_reducible refine Base.below_drewN ?_ _) | (refine Below.from (below_one _) ?_) | (refine Below.from (below_conv _ _ _) ?_) | (refine Below.setCell ?_ (by simp <;> omega) _) | (refine Below.from (by assumption) ?_)))⟩
      · have hne : (m == n) = false := by rw [beq_eq_false_iff_ne]; exact hmn
        have hAB : (A.toList == B.toList) = false := by
          rw [beq_eq_false_iff_ne]
          intro h
          rw [toList_data, toList_data, e3, f3] at h
          exact hmn (show_inj m n hm0 hm1 hn0 hn1 h)
        have NN1 := Lib.hid N1
        have NN2 := Lib.hid N2
        have NN3 := Lib.hid N3
        have PP1 := Lib.hid P1
        have PP2 := Lib.hid P2
        clear N1 N2 N3 P1 P2 e1 e2 e3 e4 e5 e6 f1 f2 f3 f4 f5 f6 ok1 ok2 hmn
        go_enter Tryd.func5, Tryd.ntmps5
        go_wp2_with (first
          | (go_at_call 11; (with_reducible refine (NN1.out _ (HT.out.later (by (focus repeat (first | exact Below.refl _ _ | assumption | (exact Hid.out (by assumption)) | (with_reducible refine Below.drew ?_) | (with_reducible refine Base.below_drewN ?_ _) | (refine Below.from (below_one _) ?_) | (refine Below.from (below_conv _ _ _) ?_) | (refine Below.setCell ?_ (by simp <;> omega) _) | (refine Below.from (by assumption) ?_)))))).mono ?_); rintro e w1 ⟨rfl, p1⟩)
          | (go_at_call 11; (with_reducible refine (NN2.out _ (HT.out.later (by (focus repeat (first | exact Below.refl _ _ | assumption | (exact Hid.out (by assumption)) | (with_reducible refine Below.drew ?_) | (with_reducible refine Base.below_drewN ?_ _) | (refine Below.from (below_one _) ?_) | (refine Below.from (below_conv _ _ _) ?_) | (refine Below.setCell ?_ (by simp <;> omega) _) | (refine Below.from (by assumption) ?_)))))).mono ?_); rintro e w2 ⟨rfl, p2⟩)
          | (go_at_call 10; (with_reducible refine (PP1.out _ (HT.out.later (by (focus repeat (first | exact Below.refl _ _ | assumption | (exact Hid.out (by assumption)) | (with_reducible refine Below.drew ?_) | (with_reducible refine Base.below_drewN ?_ _) | (refine Below.from (below_one _) ?_) | (refine Below.from (below_conv _ _ _) ?_) | (refine Below.setCell ?_ (by simp <;> omega) _) | (refine Below.from (by assumption) ?_)))))).mono ?_); rintro e w3 ⟨rfl, p3⟩)
          | (go_at_call 10; (with_reducible refine (PP2.out _ (HT.out.later (by (focus repeat (first | exact Below.refl _ _ | assumption | (exact Hid.out (by assumption)) | (with_reducible refine Below.drew ?_) | (with_reducible refine Base.below_drewN ?_ _) | (refine Below.from (below_one _) ?_) | (refine Below.from (below_conv _ _ _) ?_) | (refine Below.setCell ?_ (by simp <;> omega) _) | (refine Below.from (by assumption) ?_)))))).mono ?_); rintro e w4 ⟨rfl, p4⟩)
          | (go_at_call 11; (with_reducible refine (NN3.out _ (HT.out.later (by (focus repeat (first | exact Below.refl _ _ | assumption | (exact Hid.out (by assumption)) | (with_reducible refine Below.drew ?_) | (with_reducible refine Base.below_drewN ?_ _) | (refine Below.from (below_one _) ?_) | (refine Below.from (below_conv _ _ _) ?_) | (refine Below.setCell ?_ (by simp <;> omega) _) | (refine Below.from (by assumption) ?_)))))).mono ?_); rintro e w5 ⟨rfl, p5⟩)
          | (go_at_call 8; (with_reducible refine (awake_any _ (HT.out.later (by (focus repeat (first | exact Below.refl _ _ | assumption | (exact Hid.out (by assumption)) | (with_reducible refine Below.drew ?_) | (with_reducible refine Base.below_drewN ?_ _) | (refine Below.from (below_one _) ?_) | (refine Below.from (below_conv _ _ _) ?_) | (refine Below.setCell ?_ (by simp <;> omega) _) | (refine Below.from (by assumption) ?_)))))).mono ?_); rintro e w9 ⟨rfl, p9⟩)
          | fail)
        go_ret
        exact ⟨rfl, by (focus repeat (first | exact Below.refl _ _ | assumption | (exact Hid.out (by assumption)) | (with_reducible refine Below.drew ?_) | (with_reducible refine Base.below_drewN ?_ _) | (refine Below.from (below_one _) ?_) | (refine Below.from (below_conv _ _ _) ?_) | (refine Below.setCell ?_ (by simp <;> omega) _) | (refine Below.from (by assumption) ?_)))⟩
    · obtain ⟨F, hF, f1, f2⟩ := once_no t ok2
      rw [f1, f2] at N2
      rw [f1] at P2
      dsimp only at N2 P2
      have hF0 : (F == 0) = false := beq_eq_false_iff_ne.2 hF
      have hFF : (F == F) = true := beq_self_eq_true _
      have NN1 := Lib.hid N1
      have NN2 := Lib.hid N2
      have NN3 := Lib.hid N3
      have PP1 := Lib.hid P1
      have PP2 := Lib.hid P2
      clear N1 N2 N3 P1 P2 e1 e2 e3 e4 e5 e6 f1 f2 ok1 ok2
      go_enter Tryd.func5, Tryd.ntmps5
      go_wp2_with (first
        | (go_at_call 11; (with_reducible refine (NN1.out _ (HT.out.later (by (focus repeat (first | exact Below.refl _ _ | assumption | (exact Hid.out (by assumption)) | (with_reducible refine Below.drew ?_) | (with_reducible refine Base.below_drewN ?_ _) | (refine Below.from (below_one _) ?_) | (refine Below.from (below_conv _ _ _) ?_) | (refine Below.setCell ?_ (by simp <;> omega) _) | (refine Below.from (by assumption) ?_)))))).mono ?_); rintro e w1 ⟨rfl, p1⟩)
        | (go_at_call 11; (with_reducible refine (NN2.out _ (HT.out.later (by (focus repeat (first | exact Below.refl _ _ | assumption | (exact Hid.out (by assumption)) | (with_reducible refine Below.drew ?_) | (with_reducible refine Base.below_drewN ?_ _) | (refine Below.from (below_one _) ?_) | (refine Below.from (below_conv _ _ _) ?_) | (refine Below.setCell ?_ (by simp <;> omega) _) | (refine Below.from (by assumption) ?_)))))).mono ?_); rintro e w2 ⟨rfl, p2⟩)
        | (go_at_call 10; (with_reducible refine (PP1.out _ (HT.out.later (by (focus repeat (first | exact Below.refl _ _ | assumption | (exact Hid.out (by assumption)) | (with_reducible refine Below.drew ?_) | (with_reducible refine Base.below_drewN ?_ _) | (refine Below.from (below_one _) ?_) | (refine Below.from (below_conv _ _ _) ?_) | (refine Below.setCell ?_ (by simp <;> omega) _) | (refine Below.from (by assumption) ?_)))))).mono ?_); rintro e w3 ⟨rfl, p3⟩)
        | (go_at_call 10; (with_reducible refine (PP2.out _ (HT.out.later (by (focus repeat (first | exact Below.refl _ _ | assumption | (exact Hid.out (by assumption)) | (with_reducible refine Below.drew ?_) | (with_reducible refine Base.below_drewN ?_ _) | (refine Below.from (below_one _) ?_) | (refine Below.from (below_conv _ _ _) ?_) | (refine Below.setCell ?_ (by simp <;> omega) _) | (refine Below.from (by assumption) ?_)))))).mono ?_); rintro e w4 ⟨rfl, p4⟩)
        | (go_at_call 11; (with_reducible refine (NN3.out _ (HT.out.later (by (focus repeat (first | exact Below.refl _ _ | assumption | (exact Hid.out (by assumption)) | (with_reducible refine Below.drew ?_) | (with_reducible refine Base.below_drewN ?_ _) | (refine Below.from (below_one _) ?_) | (refine Below.from (below_conv _ _ _) ?_) | (refine Below.setCell ?_ (by simp <;> omega) _) | (refine Below.from (by assumption) ?_)))))).mono ?_); rintro e w5 ⟨rfl, p5⟩)
        | (go_at_call 8; (with_reducible refine (awake_any _ (HT.out.later (by (focus repeat (first | exact Below.refl _ _ | assumption | (exact Hid.out (by assumption)) | (with_reducible refine Below.drew ?_) | (with_reducible refine Base.below_drewN ?_ _) | (refine Below.from (below_one _) ?_) | (refine Below.from (below_conv _ _ _) ?_) | (refine Below.setCell ?_ (by simp <;> omega) _) | (refine Below.from (by assumption) ?_)))))).mono ?_); rintro e w9 ⟨rfl, p9⟩)
        | fail)
      go_ret
      exact ⟨rfl, by (focus repeat (first | exact Below.refl _ _ | assumption | (exact Hid.out (by assumption)) | (with_reducible refine Below.drew ?_) | (with_reducible refine Base.below_drewN ?_ _) | (refine Below.from (below_one _) ?_) | (refine Below.from (below_conv _ _ _) ?_) | (refine Below.setCell ?_ (by simp <;> omega) _) | (refine Below.from (by assumption) ?_)))⟩
  · obtain ⟨E, hE, e1, e2⟩ := once_no s ok1
    rw [e1, e2] at N1
    rw [e1] at P1
    dsimp only at N1 P1
    have hE0 : (E == 0) = false := beq_eq_false_iff_ne.2 hE
    have hEE : (E == E) = true := beq_self_eq_true _
    by_cases ok2 : (parse t.data.toList).2 = 0
    · obtain ⟨n, B, hn0, hn1, f1, f2, f3, f4, f5, f6⟩ := once_ok t ok2
      rw [f1, f2] at N2
      rw [f1] at P2
      dsimp only at N2 P2
      have NN1 := Lib.hid N1
      have NN2 := Lib.hid N2
      have PP1 := Lib.hid P1
      have PP2 := Lib.hid P2
      clear N1 N2 P1 P2 e1 e2 f1 f2 f3 f4 f5 f6 ok1 ok2
      go_enter Tryd.func5, Tryd.ntmps5
      go_wp2_with (first
        | (go_at_call 11; (with_reducible refine (NN1.out _ (HT.out.later (by (focus repeat (first | exact Below.refl _ _ | assumption | (exact Hid.out (by assumption)) | (with_reducible refine Below.drew ?_) | (with_reducible refine Base.below_drewN ?_ _) | (refine Below.from (below_one _) ?_) | (refine Below.from (below_conv _ _ _) ?_) | (refine Below.setCell ?_ (by simp <;> omega) _) | (refine Below.from (by assumption) ?_)))))).mono ?_); rintro e w1 ⟨rfl, p1⟩)
        | (go_at_call 11; (with_reducible refine (NN2.out _ (HT.out.later (by (focus repeat (first | exact Below.refl _ _ | assumption | (exact Hid.out (by assumption)) | (with_reducible refine Below.drew ?_) | (with_reducible refine Base.below_drewN ?_ _) | (refine Below.from (below_one _) ?_) | (refine Below.from (below_conv _ _ _) ?_) | (refine Below.setCell ?_ (by simp <;> omega) _) | (refine Below.from (by assumption) ?_)))))).mono ?_); rintro e w2 ⟨rfl, p2⟩)
        | (go_at_call 10; (with_reducible refine (PP1.out _ (HT.out.later (by (focus repeat (first | exact Below.refl _ _ | assumption | (exact Hid.out (by assumption)) | (with_reducible refine Below.drew ?_) | (with_reducible refine Base.below_drewN ?_ _) | (refine Below.from (below_one _) ?_) | (refine Below.from (below_conv _ _ _) ?_) | (refine Below.setCell ?_ (by simp <;> omega) _) | (refine Below.from (by assumption) ?_)))))).mono ?_); rintro e w3 ⟨rfl, p3⟩)
        | (go_at_call 10; (with_reducible refine (PP2.out _ (HT.out.later (by (focus repeat (first | exact Below.refl _ _ | assumption | (exact Hid.out (by assumption)) | (with_reducible refine Below.drew ?_) | (with_reducible refine Base.below_drewN ?_ _) | (refine Below.from (below_one _) ?_) | (refine Below.from (below_conv _ _ _) ?_) | (refine Below.setCell ?_ (by simp <;> omega) _) | (refine Below.from (by assumption) ?_)))))).mono ?_); rintro e w4 ⟨rfl, p4⟩)
        | (go_at_call 8; (with_reducible refine (awake_any _ (HT.out.later (by (focus repeat (first | exact Below.refl _ _ | assumption | (exact Hid.out (by assumption)) | (with_reducible refine Below.drew ?_) | (with_reducible refine Base.below_drewN ?_ _) | (refine Below.from (below_one _) ?_) | (refine Below.from (below_conv _ _ _) ?_) | (refine Below.setCell ?_ (by simp <;> omega) _) | (refine Below.from (by assumption) ?_)))))).mono ?_); rintro e w9 ⟨rfl, p9⟩)
        | fail)
      go_ret
      exact ⟨rfl, by (focus repeat (first | exact Below.refl _ _ | assumption | (exact Hid.out (by assumption)) | (with_reducible refine Below.drew ?_) | (with_reducible refine Base.below_drewN ?_ _) | (refine Below.from (below_one _) ?_) | (refine Below.from (below_conv _ _ _) ?_) | (refine Below.setCell ?_ (by simp <;> omega) _) | (refine Below.from (by assumption) ?_)))⟩
    · obtain ⟨F, hF, f1, f2⟩ := once_no t ok2
      rw [f1, f2] at N2
      rw [f1] at P2
      dsimp only at N2 P2
      have hF0 : (F == 0) = false := beq_eq_false_iff_ne.2 hF
      have hFF : (F == F) = true := beq_self_eq_true _
      have NN1 := Lib.hid N1
      have NN2 := Lib.hid N2
      have PP1 := Lib.hid P1
      have PP2 := Lib.hid P2
      clear N1 N2 P1 P2 e1 e2 f1 f2 ok1 ok2
      go_enter Tryd.func5, Tryd.ntmps5
      go_wp2_with (first
        | (go_at_call 11; (with_reducible refine (NN1.out _ (HT.out.later (by (focus repeat (first | exact Below.refl _ _ | assumption | (exact Hid.out (by assumption)) | (with_reducible refine Below.drew ?_) | (with_reducible refine Base.below_drewN ?_ _) | (refine Below.from (below_one _) ?_) | (refine Below.from (below_conv _ _ _) ?_) | (refine Below.setCell ?_ (by simp <;> omega) _) | (refine Below.from (by assumption) ?_)))))).mono ?_); rintro e w1 ⟨rfl, p1⟩)
        | (go_at_call 11; (with_reducible refine (NN2.out _ (HT.out.later (by (focus repeat (first | exact Below.refl _ _ | assumption | (exact Hid.out (by assumption)) | (with_reducible refine Below.drew ?_) | (with_reducible refine Base.below_drewN ?_ _) | (refine Below.from (below_one _) ?_) | (refine Below.from (below_conv _ _ _) ?_) | (refine Below.setCell ?_ (by simp <;> omega) _) | (refine Below.from (by assumption) ?_)))))).mono ?_); rintro e w2 ⟨rfl, p2⟩)
        | (go_at_call 10; (with_reducible refine (PP1.out _ (HT.out.later (by (focus repeat (first | exact Below.refl _ _ | assumption | (exact Hid.out (by assumption)) | (with_reducible refine Below.drew ?_) | (with_reducible refine Base.below_drewN ?_ _) | (refine Below.from (below_one _) ?_) | (refine Below.from (below_conv _ _ _) ?_) | (refine Below.setCell ?_ (by simp <;> omega) _) | (refine Below.from (by assumption) ?_)))))).mono ?_); rintro e w3 ⟨rfl, p3⟩)
        | (go_at_call 10; (with_reducible refine (PP2.out _ (HT.out.later (by (focus repeat (first | exact Below.refl _ _ | assumption | (exact Hid.out (by assumption)) | (with_reducible refine Below.drew ?_) | (with_reducible refine Base.below_drewN ?_ _) | (refine Below.from (below_one _) ?_) | (refine Below.from (below_conv _ _ _) ?_) | (refine Below.setCell ?_ (by simp <;> omega) _) | (refine Below.from (by assumption) ?_)))))).mono ?_); rintro e w4 ⟨rfl, p4⟩)
        | (go_at_call 8; (with_reducible refine (awake_any _ (HT.out.later (by (focus repeat (first | exact Below.refl _ _ | assumption | (exact Hid.out (by assumption)) | (with_reducible refine Below.drew ?_) | (with_reducible refine Base.below_drewN ?_ _) | (refine Below.from (below_one _) ?_) | (refine Below.from (below_conv _ _ _) ?_) | (refine Below.setCell ?_ (by simp <;> omega) _) | (refine Below.from (by assumption) ?_)))))).mono ?_); rintro e w9 ⟨rfl, p9⟩)
        | fail)
      go_ret
      exact ⟨rfl, by (focus repeat (first | exact Below.refl _ _ | assumption | (exact Hid.out (by assumption)) | (with_reducible refine Below.drew ?_) | (with_reducible refine Base.below_drewN ?_ _) | (refine Below.from (below_one _) ?_) | (refine Below.from (below_conv _ _ _) ?_) | (refine Below.setCell ?_ (by simp <;> omega) _) | (refine Below.from (by assumption) ?_)))⟩

end Go.Proofs.YtgpgpgechilbkaaDoor.Hours
