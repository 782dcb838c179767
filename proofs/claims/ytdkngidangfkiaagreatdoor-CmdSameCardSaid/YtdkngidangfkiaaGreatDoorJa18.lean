/-
  Joined out of: The walks of what may follow, what is lacking, and of the questions that ask it.
-/
import Derived.Test.YtdkngidangfkiaaGreatDoorJa17
namespace Go.Proofs.YtdkngidangfkiaaGreatDoor.Cmd
open Go.RowKit
open Base
open Lex (Tok tkC tkC_length tokV zT)
open Shape (frB sizeB)
set_option linter.unusedVariables false
set_option linter.unusedSimpArgs false
set_option maxRecDepth 100000 in
set_option maxHeartbeats 2000000 in
theorem mayFollow_any (ao : Option Addr) (cap : Nat) (l : List Fd) (s : ByteArray) (w : World) (hl : l.length ≤ 100000) (hr : ReadsS 2 fdC w ao l) (hT : Tb w) :
    Calls Tryz.prog 103 #[.slice ao l.length cap, .string s] w fun e w' => e = .returned (.bool (mayF l s)) ∧ Below w.heap.size w w' := by
  have c1 := fun w2 (hb : Below w.heap.size w w2) (P : Nat) (hP : w2.cell? ⟨P, 0, none⟩ = some (.string s)) => count_named P s ao cap l w2 hl (hr.below fdC_length hb) hP
  have c2 := fun w2 (hb : Below w.heap.size w w2) => count_dep ao cap l w2 hl (hr.below fdC_length hb)
  have c3 := fun w2 (hb : Below w.heap.size w w2) => howOf_any s w2 (hT.later hb)
  have k1 := key_alt s
  have hcell : (w.alloc (.cells #[.string s] 9)).cell? ⟨w.heap.size, 0, none⟩ = some (.string s) := by rw [World.cell?_alloc_at _ _ _ _ rfl]; rfl
  obtain ⟨m1, hm1⟩ : ∃ m, m = cntL (nmd s) l := ⟨_, rfl⟩
  obtain ⟨m2, hm2⟩ : ∃ m, m = cntL isDep l := ⟨_, rfl⟩
  obtain ⟨h, hh⟩ : ∃ h, h = howN s := ⟨_, rfl⟩
  have hM : mayF l s = if s = kAlt then decide (m1 < 6) else if h ≠ 0 then decide (m2 < 4) else decide (m1 = 0) := by unfold mayF noF; rw [hm1, hm2, hh]
  rw [hM]
  rw [← hm1] at c1
  rw [← hm2] at c2
  rw [← hh] at c3
  have C1 := Lib.hid c1
  have C2 := Lib.hid c2
  have C3 := Lib.hid c3
  clear c1 c2 c3 hm1 hm2 hh hr hT hM
  by_cases ha : s = kAlt
  · rw [if_pos ha]
    rw [decide_eq_true ha] at k1
    clear ha
    go_enter Tryz.func103, Tryz.ntmps103
    go_wp2_with (first
      | (go_at_call 110; (with_reducible refine (named_any _ _).mono ?_); rintro e w1 ⟨rfl, rfl⟩)
      | (go_at_call 109; (with_reducible refine (C1.out _ (below_one _) _ hcell).mono ?_); rintro e w1 ⟨rfl, p1⟩)
      | fail)
    go_ret
    refine ⟨ret_bool ?_, by (focus repeat (first | exact Below.refl _ _ | assumption | (exact Hid.out (by assumption)) | (with_reducible refine Below.drew ?_) | (with_reducible refine Base.below_drewN ?_ _) | (refine Below.from (below_one _) ?_) | (refine Below.from (below_conv _ _ _) ?_) | (refine Below.setCell ?_ (by simp <;> omega) _) | (refine Below.from (by assumption) ?_)))⟩
    rw [Bool.eq_iff_iff]; simp; omega
  · rw [if_neg ha]
    rw [decide_eq_false ha] at k1
    clear ha
    by_cases h0 : h = 0
    · rw [if_neg (by simpa using h0)]
      subst h0
      go_enter Tryz.func103, Tryz.ntmps103
      go_wp2_with (first
        | (go_at_call 107; (with_reducible refine (C3.out _ (by (focus repeat (first | exact Below.refl _ _ | assumption | (exact Hid.out (by assumption)) | (with_reducible refine Below.drew ?_) | (with_reducible refine Base.below_drewN ?_ _) | (refine Below.from (below_one _) ?_) | (refine Below.from (below_conv _ _ _) ?_) | (refine Below.setCell ?_ (by simp <;> omega) _) | (refine Below.from (by assumption) ?_))))).mono ?_); rintro e w1 ⟨rfl, rfl⟩)
        | (go_at_call 110; (with_reducible refine (named_any _ _).mono ?_); rintro e w1 ⟨rfl, rfl⟩)
        | (go_at_call 109; (with_reducible refine (C1.out _ (below_one _) _ hcell).mono ?_); rintro e w1 ⟨rfl, p1⟩)
        | fail)
      go_ret
      refine ⟨ret_bool ?_, by (focus repeat (first | exact Below.refl _ _ | assumption | (exact Hid.out (by assumption)) | (with_reducible refine Below.drew ?_) | (with_reducible refine Base.below_drewN ?_ _) | (refine Below.from (below_one _) ?_) | (refine Below.from (below_conv _ _ _) ?_) | (refine Below.setCell ?_ (by simp <;> omega) _) | (refine Below.from (by assumption) ?_)))⟩
      rw [Bool.eq_iff_iff]; simp
    · rw [if_pos h0]
      have t0 : ((h : Int) != 0) = true := by rw [bne_iff_ne]; omega
      go_enter Tryz.func103, Tryz.ntmps103
      go_wp2_with (first
        | (go_at_call 107; (with_reducible refine (C3.out _ (by (focus repeat (first | exact Below.refl _ _ | assumption | (exact Hid.out (by assumption)) | (with_reducible refine Below.drew ?_) | (with_reducible refine Base.below_drewN ?_ _) | (refine Below.from (below_one _) ?_) | (refine Below.from (below_conv _ _ _) ?_) | (refine Below.setCell ?_ (by simp <;> omega) _) | (refine Below.from (by assumption) ?_))))).mono ?_); rintro e w1 ⟨rfl, rfl⟩)
        | (go_at_call 109; (with_reducible refine (C2.out _ (by (focus repeat (first | exact Below.refl _ _ | assumption | (exact Hid.out (by assumption)) | (with_reducible refine Below.drew ?_) | (with_reducible refine Base.below_drewN ?_ _) | (refine Below.from (below_one _) ?_) | (refine Below.from (below_conv _ _ _) ?_) | (refine Below.setCell ?_ (by simp <;> omega) _) | (refine Below.from (by assumption) ?_))))).mono ?_); rintro e w1 ⟨rfl, p1⟩)
        | fail)
      go_ret
      refine ⟨ret_bool ?_, by (focus repeat (first | exact Below.refl _ _ | assumption | (exact Hid.out (by assumption)) | (with_reducible refine Below.drew ?_) | (with_reducible refine Base.below_drewN ?_ _) | (refine Below.from (below_one _) ?_) | (refine Below.from (below_conv _ _ _) ?_) | (refine Below.setCell ?_ (by simp <;> omega) _) | (refine Below.from (by assumption) ?_)))⟩
      rw [Bool.eq_iff_iff]; simp; omega
theorem named_some (s : ByteArray) (w : World) :
    Calls Tryz.prog 110 #[.string s] w fun e w' => ∃ Q, e = .returned (.func (.func 145) #[] #[.pointer (some ⟨Q, 0, none⟩)]) ∧ w'.cell? ⟨Q, 0, none⟩ = some (.string s) ∧ Below w.heap.size w w' :=
  (named_any s w).mono fun e w' ⟨h1, h2⟩ => ⟨w.heap.size, h1, by subst h2; rw [World.cell?_alloc_at _ _ _ _ rfl]; rfl, by subst h2; exact below_one _⟩
theorem on_some (j : Int) (w : World) :
    Calls Tryz.prog 171 #[.int .i64 j] w fun e w' => ∃ Q, e = .returned (.func (.func 190) #[] #[.pointer (some ⟨Q, 0, none⟩)]) ∧ w'.cell? ⟨Q, 0, none⟩ = some (.int .i64 j) ∧ Below w.heap.size w w' :=
  (dependsOn_any j w).mono fun e w' ⟨h1, h2⟩ => ⟨w.heap.size, h1, by subst h2; rw [World.cell?_alloc_at _ _ _ _ rfl]; rfl, by subst h2; exact below_one _⟩
set_option maxRecDepth 100000 in
set_option maxHeartbeats 2000000 in
theorem no_any (P : Nat) (ao : Option Addr) (cap : Nat) (l : List Fd) (s : ByteArray) (w : World) (hl : l.length ≤ 100000) (hr : ReadsS 2 fdC w ao l) (hP : w.cell? ⟨P, 0, none⟩ = some (.slice ao l.length cap)) :
    Calls Tryz.prog 108 #[.string s, .pointer (some ⟨P, 0, none⟩)] w fun e w' => e = .returned (.bool (noF l s)) ∧ Below w.heap.size w w' := by
  have c1 := fun w2 (hb : Below w.heap.size w w2) (Q : Nat) (hQ : w2.cell? ⟨Q, 0, none⟩ = some (.string s)) => count_named Q s ao cap l w2 hl (hr.below fdC_length hb) hQ
  have hlt := lt_of_cell hP
  obtain ⟨m1, hm1⟩ : ∃ m, m = cntL (nmd s) l := ⟨_, rfl⟩
  have hM : noF l s = decide (m1 = 0) := by unfold noF; rw [hm1]
  rw [hM]
  rw [← hm1] at c1
  have C1 := Lib.hid c1
  have HPB := Lib.hid (fun w2 (hb : Below w.heap.size w w2) => cell_below hP hb)
  clear c1 hm1 hM hr
  go_enter Tryz.func108, Tryz.ntmps108
  go_wp2
  go_region_with (first
    | (go_at_call 110; (with_reducible refine (named_some _ _).mono ?_); rintro e w1 ⟨Q, rfl, hQ, p1⟩; have hP1 := HPB.out w1 (by (focus repeat (first | exact Below.refl _ _ | assumption | (exact Hid.out (by assumption)) | (with_reducible refine Below.drew ?_) | (with_reducible refine Base.below_drewN ?_ _) | (refine Below.from (below_one _) ?_) | (refine Below.from (below_conv _ _ _) ?_) | (refine Below.setCell ?_ (by simp <;> omega) _) | (refine Below.from (by assumption) ?_)))))
    | (go_at_call 109; (with_reducible refine (C1.out _ (by (focus repeat (first | exact Below.refl _ _ | assumption | (exact Hid.out (by assumption)) | (with_reducible refine Below.drew ?_) | (with_reducible refine Base.below_drewN ?_ _) | (refine Below.from (below_one _) ?_) | (refine Below.from (below_conv _ _ _) ?_) | (refine Below.setCell ?_ (by simp <;> omega) _) | (refine Below.from (by assumption) ?_)))) _ (by assumption)).mono ?_); rintro e w2 ⟨rfl, p2⟩)
    | fail)
  all_goals
    go_wp2
    go_ret
    refine ⟨ret_bool ?_, by (focus repeat (first | exact Below.refl _ _ | assumption | (exact Hid.out (by assumption)) | (with_reducible refine Below.drew ?_) | (with_reducible refine Base.below_drewN ?_ _) | (refine Below.from (below_one _) ?_) | (refine Below.from (below_conv _ _ _) ?_) | (refine Below.setCell ?_ (by simp <;> omega) _) | (refine Below.from (by assumption) ?_)))⟩
    rw [Bool.eq_iff_iff]; simp
set_option maxRecDepth 100000 in
set_option maxHeartbeats 4000000 in
theorem lacks_any (k : Int) (ao : Option Addr) (cap : Nat) (l : List Fd) (w : World) (hl : l.length ≤ 100000) (hr : ReadsS 2 fdC w ao l) :
    Calls Tryz.prog 70 #[.int .i64 k, .slice ao l.length cap] w fun e w' => e = .returned (.bool (lacksB k l)) ∧ Below w.heap.size w w' := by
  have c1 := fun (s : ByteArray) w2 (hb : Below (w.alloc (.cells #[.slice ao l.length cap] 52)).heap.size (w.alloc (.cells #[.slice ao l.length cap] 52)) w2) =>
    no_any w.heap.size ao cap l s w2 hl (hr.below fdC_length (hb.from (below_one _))) (box_cell hb)
  have C1 := Lib.hid c1
  clear c1 hr
  unfold lacksB
  by_cases k1 : k = 1
  · subst k1
    rw [if_pos rfl]
    go_enter Tryz.func70, Tryz.ntmps70
    go_wp2_with (first
      | (go_at_call 108; (with_reducible refine (C1.out _ _ (by (focus repeat (first | exact Below.refl _ _ | assumption | (exact Hid.out (by assumption)) | (with_reducible refine Below.drew ?_) | (with_reducible refine Base.below_drewN ?_ _) | (refine Below.from (below_one _) ?_) | (refine Below.from (below_conv _ _ _) ?_) | (refine Below.setCell ?_ (by simp <;> omega) _) | (refine Below.from (by assumption) ?_))))).mono ?_); rintro e w1 ⟨rfl, p1⟩)
      | fail)
    all_goals
      go_ret
      refine ⟨ret_bool ?_, by (focus repeat (first | exact Below.refl _ _ | assumption | (exact Hid.out (by assumption)) | (with_reducible refine Below.drew ?_) | (with_reducible refine Base.below_drewN ?_ _) | (refine Below.from (below_one _) ?_) | (refine Below.from (below_conv _ _ _) ?_) | (refine Below.setCell ?_ (by simp <;> omega) _) | (refine Below.from (by assumption) ?_)))⟩
      simp [*, kUser, kAccount, kAlt, kTime, kNodes, kRange]
  · rw [if_neg k1]
    have t1 : (k == 1) = false := by simpa using k1
    by_cases k5 : k = 5
    · subst k5
      rw [if_pos rfl]
      go_enter Tryz.func70, Tryz.ntmps70
      go_wp2
      go_ret
      refine ⟨ret_bool ?_, by (focus repeat (first | exact Below.refl _ _ | assumption | (exact Hid.out (by assumption)) | (with_reducible refine Below.drew ?_) | (with_reducible refine Base.below_drewN ?_ _) | (refine Below.from (below_one _) ?_) | (refine Below.from (below_conv _ _ _) ?_) | (refine Below.setCell ?_ (by simp <;> omega) _) | (refine Below.from (by assumption) ?_)))⟩
      rw [Bool.eq_iff_iff]; simp
    · rw [if_neg k5]
      have t5 : (k == 5) = false := by simpa using k5
      by_cases k6 : k = 6
      · subst k6
        rw [if_pos rfl]
        go_enter Tryz.func70, Tryz.ntmps70
        go_wp2_with (first
          | (go_at_call 108; (with_reducible refine (C1.out _ _ (by (focus repeat (first | exact Below.refl _ _ | assumption | (exact Hid.out (by assumption)) | (with_reducible refine Below.drew ?_) | (with_reducible refine Base.below_drewN ?_ _) | (refine Below.from (below_one _) ?_) | (refine Below.from (below_conv _ _ _) ?_) | (refine Below.setCell ?_ (by simp <;> omega) _) | (refine Below.from (by assumption) ?_))))).mono ?_); rintro e w1 ⟨rfl, p1⟩)
          | fail)
        go_ret
        exact ⟨rfl, by (focus repeat (first | exact Below.refl _ _ | assumption | (exact Hid.out (by assumption)) | (with_reducible refine Below.drew ?_) | (with_reducible refine Base.below_drewN ?_ _) | (refine Below.from (below_one _) ?_) | (refine Below.from (below_conv _ _ _) ?_) | (refine Below.setCell ?_ (by simp <;> omega) _) | (refine Below.from (by assumption) ?_)))⟩
      · rw [if_neg k6]
        have t6 : (k == 6) = false := by simpa using k6
        by_cases k10 : k = 10
        · subst k10
          rw [if_pos rfl]
          go_enter Tryz.func70, Tryz.ntmps70
          go_wp2_with (first
            | (go_at_call 108; (with_reducible refine (C1.out _ _ (by (focus repeat (first | exact Below.refl _ _ | assumption | (exact Hid.out (by assumption)) | (with_reducible refine Below.drew ?_) | (with_reducible refine Base.below_drewN ?_ _) | (refine Below.from (below_one _) ?_) | (refine Below.from (below_conv _ _ _) ?_) | (refine Below.setCell ?_ (by simp <;> omega) _) | (refine Below.from (by assumption) ?_))))).mono ?_); rintro e w1 ⟨rfl, p1⟩)
            | fail)
          all_goals
            go_ret
            refine ⟨ret_bool ?_, by (focus repeat (first | exact Below.refl _ _ | assumption | (exact Hid.out (by assumption)) | (with_reducible refine Below.drew ?_) | (with_reducible refine Base.below_drewN ?_ _) | (refine Below.from (below_one _) ?_) | (refine Below.from (below_conv _ _ _) ?_) | (refine Below.setCell ?_ (by simp <;> omega) _) | (refine Below.from (by assumption) ?_)))⟩
            simp [*, kTime, kNodes, kFrom]
        · rw [if_neg k10]
          have t10 : (k == 10) = false := by simpa using k10
          go_enter Tryz.func70, Tryz.ntmps70
          go_wp2
          go_ret
          exact ⟨rfl, by (focus repeat (first | exact Below.refl _ _ | assumption | (exact Hid.out (by assumption)) | (with_reducible refine Below.drew ?_) | (with_reducible refine Base.below_drewN ?_ _) | (refine Below.from (below_one _) ?_) | (refine Below.from (below_conv _ _ _) ?_) | (refine Below.setCell ?_ (by simp <;> omega) _) | (refine Below.from (by assumption) ?_)))⟩
end Go.Proofs.YtdkngidangfkiaaGreatDoor.Cmd
