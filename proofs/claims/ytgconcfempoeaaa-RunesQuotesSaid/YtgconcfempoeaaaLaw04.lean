/-
  The walks of the statements of layer 4: 'awake', RunesClass, RunesChecks, RunesQuotes.
-/
import Derived.Test.YtgconcfempoeaaaRunesUnq
namespace Go.Proofs.Ytgconcfempoeaaa.Runes
open Go.RowKit
open Base Bld
set_option linter.unusedVariables false

abbrev ya : ByteArray := ⟨#[97, 0]⟩
abbrev yb : ByteArray := ⟨#[97, 34, 98]⟩
abbrev yc : ByteArray := ⟨#[34, 97, 92, 34, 98, 34]⟩
abbrev yd : ByteArray := ⟨#[34, 97, 34, 98, 34]⟩
abbrev ye : ByteArray := ⟨#[195, 169, 98]⟩
abbrev yf : ByteArray := ⟨#[195, 169]⟩
abbrev yg : ByteArray := ⟨#[97, 66]⟩
abbrev yh : ByteArray := ⟨#[97, 98]⟩

set_option maxRecDepth 100000 in
set_option maxHeartbeats 1000000 in
theorem awake_any (w : World) :
    Calls Try.prog 10 #[] w fun e w' => e = .returned (.bool true) ∧ Below w.heap.size w w' := by
  have e1 : ckN ya = 1 ∧ ckE ya = 40 := by decide +kernel
  have e2 : qtS yb = yc ∧ ckE yb = 0 := by decide +kernel
  have e3 : uqS yc = yb ∧ uqE yc = 0 := by decide +kernel
  have e4 : uqE yd = 50 := by decide +kernel
  have e5 : cuA ye 1 = yf ∧ cuB ye 1 = ⟨#[98]⟩ ∧ cuK ye 1 = true := by decide +kernel
  have e6 : cn yf = 1 := by decide +kernel
  have e7 : cls 97 = 2 := by decide +kernel
  have e8 : lowS yg = yh := by decide +kernel
  have c1 := fun w => check_any ya (by decide) w
  have c2 := fun w => quote_any yb (by decide) w
  have c3 := fun w => unquote_any yc (by decide) w
  have c4 := fun w => unquote_any yd (by decide) w
  have c5 := fun w => cut_any ye (by decide) 1 (by decide) w
  have c6 := fun w => count_any yf (by decide) w
  have c7 := fun w => class_any 97 w
  have c8 := fun w => lower_any yg (by decide) w
  simp only [e1.1, e1.2] at c1
  simp only [e2.1, e2.2] at c2
  simp only [e3.1, e3.2] at c3
  simp only [e4] at c4
  simp only [e5.1, e5.2.1, e5.2.2] at c5
  simp only [e6] at c6
  simp only [e7] at c7
  simp only [e8] at c8
  have C1 := Lib.hid c1
  have C2 := Lib.hid c2
  have C3 := Lib.hid c3
  have C4 := Lib.hid c4
  have C5 := Lib.hid c5
  have C6 := Lib.hid c6
  have C7 := Lib.hid c7
  have C8 := Lib.hid c8
  clear e1 e2 e3 e4 e5 e6 e7 e8 c1 c2 c3 c4 c5 c6 c7 c8
  go_enter Try.func10, Try.ntmps10
  go_wp2_with (first
    | (go_at_call 11; (with_reducible refine (C1.out _).mono ?_); rintro e w1 ⟨rfl, p1⟩)
    | (go_at_call 19; (with_reducible refine (C2.out _).mono ?_); rintro e w2 ⟨rfl, p2⟩)
    | (go_at_call 21; (with_reducible refine (C3.out _).mono ?_); rintro e w3 ⟨rfl, p3⟩)
    | (go_at_call 21; (with_reducible refine (C4.out _).mono ?_); rintro e w4 ⟨rfl, p4⟩)
    | (go_at_call 13; (with_reducible refine (C5.out _).mono ?_); rintro e w5 ⟨rfl, p5⟩)
    | (go_at_call 15; (with_reducible refine (C6.out _).mono ?_); rintro e w6 ⟨rfl, p6⟩)
    | (go_at_call 8; (with_reducible refine (C7.out _).mono ?_); rintro e w7 ⟨rfl, rfl⟩)
    | (go_at_call 17; (with_reducible refine (C8.out _).mono ?_); rintro e w8 ⟨rfl, p8⟩)
    | fail)
  go_ret
  exact ⟨rfl, p8.from (p6.from (p5.from (p4.from (p3.from (p2.from p1)))))⟩

theorem runesClass_any (r : Int) (w : World) :
    Calls Try.prog 3 #[.int .i32 r] w fun e w' => e = .returned (.bool true) ∧ Below w.heap.size w w' := by
  go_enter Try.func3, Try.ntmps3
  go_wp2_with (first
    | (go_at_call 8; (with_reducible refine (class_any _ _).mono ?_); rintro e w' ⟨rfl, rfl⟩)
    | (go_at_call 9; (with_reducible refine (rclass_any _ _).mono ?_); rintro e w' ⟨rfl, rfl⟩)
    | (go_at_call 10; (with_reducible refine (awake_any _).mono ?_); rintro e w1 ⟨rfl, p1⟩)
    | fail)
  go_ret
  exact ⟨rfl, p1⟩

set_option maxRecDepth 100000 in
set_option maxHeartbeats 2000000 in
theorem runesChecks_any (s : ByteArray) (hs : s.size ≤ maxLen) (n : Int) (hn : n ≤ 9223372036854775807) (w : World) :
    Calls Try.prog 4 #[.string s, .int .i64 n] w fun e w' => e = .returned (.bool true) ∧ Below w.heap.size w w' := by
  by_cases hl : 10000 < s.size
  · go_enter Try.func4, Try.ntmps4
    unfold maxLen at hs
    go_wp2_with (first | (go_at_call 10; (with_reducible refine (awake_any _).mono ?_); rintro e w1 ⟨rfl, p1⟩) | fail)
    go_ret
    exact ⟨rfl, p1⟩
  · go_enter Try.func4, Try.ntmps4
    go_wp2_with (first
      | (go_at_call 11; (with_reducible refine (check_any s (by omega) _).mono ?_); rintro e w1 ⟨rfl, p1⟩)
      | (go_at_call 12; (with_reducible refine (rcheck_any s (by omega) _).mono ?_); rintro e w2 ⟨rfl, p2⟩)
      | (go_at_call 13; (with_reducible refine (cut_any s (by omega) n hn _).mono ?_); rintro e w3 ⟨rfl, p3⟩)
      | (go_at_call 14; (with_reducible refine (rcut_any s (by omega) n _).mono ?_); rintro e w4 ⟨rfl, p4⟩)
      | (go_at_call 15; (with_reducible refine (count_any s (by omega) _).mono ?_); rintro e w5 ⟨rfl, p5⟩)
      | (go_at_call 16; (with_reducible refine (rcount_any s (by omega) _).mono ?_); rintro e w6 ⟨rfl, p6⟩)
      | (go_at_call 17; (with_reducible refine (lower_any s (by omega) _).mono ?_); rintro e w7 ⟨rfl, p7⟩)
      | (go_at_call 18; (with_reducible refine (rlower_any s (by omega) _).mono ?_); rintro e w8 ⟨rfl, p8⟩)
      | (go_at_call 10; (with_reducible refine (awake_any _).mono ?_); rintro e w9 ⟨rfl, p9⟩)
      | fail)
    go_ret
    exact ⟨rfl, p9.from (p8.from (p7.from (p6.from (p5.from (p4.from (p3.from (p2.from p1)))))))⟩

set_option maxRecDepth 100000 in
set_option maxHeartbeats 2000000 in
theorem runesQuotes_any (s : ByteArray) (hs : s.size ≤ maxLen) (w : World) :
    Calls Try.prog 5 #[.string s] w fun e w' => e = .returned (.bool true) ∧ Below w.heap.size w w' := by
  by_cases hl : 10000 < s.size
  · go_enter Try.func5, Try.ntmps5
    unfold maxLen at hs
    go_wp2_with (first | (go_at_call 10; (with_reducible refine (awake_any _).mono ?_); rintro e w1 ⟨rfl, p1⟩) | fail)
    go_ret
    exact ⟨rfl, p1⟩
  · go_enter Try.func5, Try.ntmps5
    go_wp2_with (first
      | (go_at_call 19; (with_reducible refine (quote_any s (by omega) _).mono ?_); rintro e w1 ⟨rfl, p1⟩)
      | (go_at_call 20; (with_reducible refine (rquote_any s (by omega) _).mono ?_); rintro e w2 ⟨rfl, p2⟩)
      | (go_at_call 21; (with_reducible refine (unquote_any s (by omega) _).mono ?_); rintro e w3 ⟨rfl, p3⟩)
      | (go_at_call 22; (with_reducible refine (runquote_any s (by omega) _).mono ?_); rintro e w4 ⟨rfl, p4⟩)
      | (go_at_call 10; (with_reducible refine (awake_any _).mono ?_); rintro e w5 ⟨rfl, p5⟩)
      | fail)
    go_ret
    exact ⟨rfl, p5.from (p4.from (p3.from (p2.from p1)))⟩

end Go.Proofs.Ytgconcfempoeaaa.Runes
