/-
  The walks of what is asked of the next rune: package lex's small questions and closures.
-/
import Derived.Test.YtejppikbdplamaaDoorLexPiece
import Derived.Test.YtejppikbdplamaaDoorLexLib
namespace Go.Proofs.YtejppikbdplamaaDoor.Lex
open Go.RowKit
open Base Runes
set_option linter.unusedVariables false
set_option linter.unusedSimpArgs false

theorem isDigit_any (r : Int) (w : World) :
    Calls Tryd.prog 45 #[.int .i32 r] w fun e w' => e = .returned (.bool (cls r == 3)) ∧ w = w' := by
  go_enter Tryd.func45, Tryd.ntmps45
  go_wp2_with (first | (go_at_call 29; (with_reducible refine (class_any _ _).mono ?_); rintro e w' ⟨rfl, rfl⟩) | fail)
  go_ret
  exact ⟨rfl, rfl⟩

theorem isSmall_any (r : Int) (w : World) :
    Calls Tryd.prog 32 #[.int .i32 r] w fun e w' => e = .returned (.bool (decide (97 ≤ r ∧ r ≤ 122))) ∧ w = w' := by
  go_enter Tryd.func32, Tryd.ntmps32
  go_wp2
  all_goals
    go_ret
    refine ⟨ret_bool ?_, rfl⟩
    rw [Bool.eq_iff_iff]
    first | (simp [*]; done) | (simp [*]; omega)

theorem isSign_any (r : Int) (w : World) :
    Calls Tryd.prog 35 #[.int .i32 r] w fun e w' => e = .returned (.bool (decide (r = 61 ∨ r = 58 ∨ r = 44 ∨ r = 45))) ∧ w = w' := by
  go_enter Tryd.func35, Tryd.ntmps35
  go_wp2
  all_goals
    go_ret
    refine ⟨ret_bool ?_, rfl⟩
    rw [Bool.eq_iff_iff]
    first | (simp [*]; done) | (simp [*]; omega)

theorem word_is (r : Nat) : wordR r = true ↔ (cls (r : Int) = 2 ∨ cls (r : Int) = 3 ∨ (r : Int) = 45 ∨ (r : Int) = 95) := by
  unfold wordR; rw [decide_eq_true_iff]; omega
theorem small_is (r : Nat) : smallR r = true ↔ (cls (r : Int) = 3 ∨ (97 ≤ (r : Int) ∧ (r : Int) ≤ 122)) := by
  have h3 : cls (r : Int) = 3 ↔ (48 ≤ (r : Int) ∧ (r : Int) ≤ 57) := by
    constructor
    · intro h
      have := cls_small h
      unfold cls at h
      split at h
      · simp at h
      · split at h
        · simp at h
        · split at h
          · assumption
          · split at h <;> simp at h
    · intro h
      unfold cls
      rw [if_neg (by omega), if_neg (by omega), if_pos h]
  rw [h3]; unfold smallR; rw [decide_eq_true_iff]; omega

set_option maxHeartbeats 1000000 in
theorem bel1_any (r : Nat) (w : World) :
    Calls Tryd.prog 44 #[.int .i32 (r : Int)] w fun e w' => e = .returned (.bool (wordR r)) ∧ w = w' := by
  obtain ⟨b, hb⟩ : ∃ b, b = wordR r := ⟨_, rfl⟩
  have hw := word_is r
  rw [← hb] at hw ⊢
  have HW := Lib.hid hw
  clear hb hw
  go_enter Tryd.func44, Tryd.ntmps44
  go_wp2_with (first
    | (go_at_call 29; (with_reducible refine (class_any _ _).mono ?_); rintro e w' ⟨rfl, rfl⟩)
    | (go_at_call 45; (with_reducible refine (isDigit_any _ _).mono ?_); rintro e w' ⟨rfl, rfl⟩)
    | fail)
  all_goals
    go_ret
    refine ⟨ret_bool ?_, rfl⟩
    rw [Bool.eq_iff_iff, HW.out]
    try simp only [beq_iff_eq, beq_eq_false_iff_ne, ne_eq] at *
    first | (simp [*]; done) | (simp [*]; omega)

set_option maxHeartbeats 1000000 in
theorem bel2_any (r : Nat) (w : World) :
    Calls Tryd.prog 46 #[.int .i32 (r : Int)] w fun e w' => e = .returned (.bool (smallR r)) ∧ w = w' := by
  obtain ⟨b, hb⟩ : ∃ b, b = smallR r := ⟨_, rfl⟩
  have hw := small_is r
  rw [← hb] at hw ⊢
  have HW := Lib.hid hw
  clear hb hw
  go_enter Tryd.func46, Tryd.ntmps46
  go_wp2_with (first
    | (go_at_call 45; (with_reducible refine (isDigit_any _ _).mono ?_); rintro e w' ⟨rfl, rfl⟩)
    | (go_at_call 32; (with_reducible refine (isSmall_any _ _).mono ?_); rintro e w' ⟨rfl, rfl⟩)
    | fail)
  all_goals
    go_ret
    refine ⟨ret_bool ?_, rfl⟩
    rw [Bool.eq_iff_iff, HW.out]
    try simp only [beq_iff_eq, beq_eq_false_iff_ne, ne_eq] at *
    first | (simp [*]; done) | (simp [*]; omega)

theorem bel3_any (r : Nat) (w : World) :
    Calls Tryd.prog 48 #[.int .i32 (r : Int)] w fun e w' => e = .returned (.bool false) ∧ w = w' := by
  go_enter Tryd.func48, Tryd.ntmps48
  go_wp2
  go_ret
  exact ⟨rfl, rfl⟩

/-- The closure of a text: its two cells. -/
def TextAt (b : Nat) (m e : Bool) (w : World) : Prop := w.cell? ⟨b, 0, none⟩ = some (.bool m) ∧ w.frozen? ⟨b, 0, none⟩ = false ∧ w.cell? ⟨b + 1, 0, none⟩ = some (.bool e) ∧ w.frozen? ⟨b + 1, 0, none⟩ = false

set_option maxHeartbeats 1000000 in
theorem belT_any (r b : Nat) (m e : Bool) (w : World) (h : TextAt b m e w) :
    Calls Tryd.prog 62 #[.int .i32 (r : Int), .pointer (some ⟨b + 1, 0, none⟩), .pointer (some ⟨b, 0, none⟩)] w fun x w' => x = .returned (.bool (!e)) ∧
      w' = if e = true then w else (w.setCell ⟨b + 1, 0, none⟩ (.bool (r == 34 && !m))).setCell ⟨b, 0, none⟩ (.bool (r == 92 && !m)) := by
  obtain ⟨h1, h2, h3, h4⟩ := h
  cases e with
  | true =>
    go_enter Tryd.func62, Tryd.ntmps62
    go_wp2
    go_ret
    exact ⟨rfl, rfl⟩
  | false =>
    obtain ⟨x, hx⟩ : ∃ x, x = (r == 34 && !m) := ⟨_, rfl⟩
    obtain ⟨y, hy⟩ : ∃ y, y = (r == 92 && !m) := ⟨_, rfl⟩
    rw [← hx, ← hy]
    by_cases h34 : r = 34
    · have t34 : ((r : Int) == 34) = true := by rw [beq_iff_eq]; omega
      have t92 : ((r : Int) == 92) = false := by rw [beq_eq_false_iff_ne]; omega
      have HX : Hid ((!m) = x) := Lib.hid (by rw [hx, h34]; rfl)
      have HY : Hid (false = y) := Lib.hid (by rw [hy, h34]; rfl)
      clear hx hy
      go_enter Tryd.func62, Tryd.ntmps62
      go_wp2
      go_ret
      exact ⟨rfl, by rw [← HX.out, ← HY.out]⟩
    · have t34 : ((r : Int) == 34) = false := by rw [beq_eq_false_iff_ne]; omega
      have HX : Hid (false = x) := Lib.hid (by rw [hx, show (r == 34) = false by rw [beq_eq_false_iff_ne]; exact h34]; rfl)
      by_cases h92 : r = 92
      · have t92 : ((r : Int) == 92) = true := by rw [beq_iff_eq]; omega
        have HY : Hid ((!m) = y) := Lib.hid (by rw [hy, h92]; rfl)
        clear hx hy
        go_enter Tryd.func62, Tryd.ntmps62
        go_wp2
        go_ret
        exact ⟨rfl, by rw [← HX.out, ← HY.out]⟩
      · have t92 : ((r : Int) == 92) = false := by rw [beq_eq_false_iff_ne]; omega
        have HY : Hid (false = y) := Lib.hid (by rw [hy, show (r == 92) = false by rw [beq_eq_false_iff_ne]; exact h92]; rfl)
        clear hx hy
        go_enter Tryd.func62, Tryd.ntmps62
        go_wp2
        go_ret
        exact ⟨rfl, by rw [← HX.out, ← HY.out]⟩

/-- What 'belongs' tells of the rune that begins. -/
def moV (b : Nat) : Mo → Value
  | .no => .func (.func 48) #[] #[]
  | .word => .func (.func 44) #[] #[]
  | .time => .func (.func 46) #[] #[]
  | .text _ _ => .func (.func 62) #[] #[.pointer (some ⟨b + 1, 0, none⟩), .pointer (some ⟨b, 0, none⟩)]
def MoAt (b : Nat) : Mo → World → Prop
  | .text m e, w => TextAt b m e w
  | _, _ => True

set_option maxHeartbeats 1000000 in
theorem belongsToText_any (w : World) :
    Calls Tryd.prog 47 #[] w fun e w' => e = .returned (moV w.heap.size (.text false false)) ∧ TextAt w.heap.size false false w' ∧ Below w.heap.size w w' ∧ w.heap.size + 1 < w'.heap.size := by
  unfold moV TextAt
  go_enter Tryd.func47, Tryd.ntmps47
  go_wp2
  go_ret
  refine ⟨rfl, ⟨?_, ?_, ?_, ?_⟩, below_two _ _, by simp⟩
  all_goals simp

set_option maxHeartbeats 1000000 in
theorem belongs_any (r : Nat) (w : World) :
    Calls Tryd.prog 26 #[.int .i32 (r : Int)] w fun e w' => e = .returned (moV w.heap.size (beg r)) ∧ MoAt w.heap.size (beg r) w' ∧ Below w.heap.size w w' := by
  obtain ⟨B, hB⟩ : ∃ B, B = beg r := ⟨_, rfl⟩
  rw [← hB]
  unfold beg at hB
  by_cases h2 : cls (r : Int) = 2
  · rw [if_pos h2] at hB
    have t2 : (cls (r : Int) == 2) = true := by rw [beq_iff_eq]; exact h2
    subst hB
    unfold moV MoAt
    clear h2
    go_enter Tryd.func26, Tryd.ntmps26
    go_wp2_with (first | (go_at_call 29; (with_reducible refine (class_any _ _).mono ?_); rintro e w' ⟨rfl, rfl⟩) | fail)
    go_ret
    exact ⟨rfl, trivial, Below.refl _ _⟩
  · rw [if_neg h2] at hB
    have t2 : (cls (r : Int) == 2) = false := by rw [beq_eq_false_iff_ne]; exact h2
    by_cases h3 : cls (r : Int) = 3
    · rw [if_pos h3] at hB
      have t3 : (cls (r : Int) == 3) = true := by rw [beq_iff_eq]; exact h3
      subst hB
      unfold moV MoAt
      clear h2 h3
      go_enter Tryd.func26, Tryd.ntmps26
      go_wp2_with (first
        | (go_at_call 29; (with_reducible refine (class_any _ _).mono ?_); rintro e w' ⟨rfl, rfl⟩)
        | (go_at_call 45; (with_reducible refine (isDigit_any _ _).mono ?_); rintro e w' ⟨rfl, rfl⟩)
        | fail)
      go_ret
      exact ⟨rfl, trivial, Below.refl _ _⟩
    · rw [if_neg h3] at hB
      have t3 : (cls (r : Int) == 3) = false := by rw [beq_eq_false_iff_ne]; exact h3
      by_cases h34 : r = 34
      · rw [if_pos h34] at hB
        have t34 : ((r : Int) == 34) = true := by rw [beq_iff_eq]; omega
        subst hB
        have c1 := belongsToText_any w
        unfold moV at c1 ⊢
        have C1 := Lib.hid c1
        clear h2 h3 c1 h34
        go_enter Tryd.func26, Tryd.ntmps26
        go_wp2_with (first
          | (go_at_call 29; (with_reducible refine (class_any _ _).mono ?_); rintro e w' ⟨rfl, rfl⟩)
          | (go_at_call 45; (with_reducible refine (isDigit_any _ _).mono ?_); rintro e w' ⟨rfl, rfl⟩)
          | (go_at_call 47; (with_reducible refine (C1.out).mono ?_); rintro e w1 ⟨rfl, h1, p1, _⟩)
          | fail)
        go_ret
        exact ⟨rfl, h1, p1⟩
      · rw [if_neg h34] at hB
        have t34 : ((r : Int) == 34) = false := by rw [beq_eq_false_iff_ne]; omega
        subst hB
        unfold moV MoAt
        clear h2 h3 h34
        go_enter Tryd.func26, Tryd.ntmps26
        go_wp2_with (first
          | (go_at_call 29; (with_reducible refine (class_any _ _).mono ?_); rintro e w' ⟨rfl, rfl⟩)
          | (go_at_call 45; (with_reducible refine (isDigit_any _ _).mono ?_); rintro e w' ⟨rfl, rfl⟩)
          | fail)
        go_ret
        exact ⟨rfl, trivial, Below.refl _ _⟩

end Go.Proofs.YtejppikbdplamaaDoor.Lex
