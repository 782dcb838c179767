/-
  The walks of the statements of layer 3: 'awake', PackNumbers.
-/
import Derived.Test.YtamhmbmbcgjbmaaPackRef2
namespace Go.Proofs.Ytamhmbmbcgjbmaa.Pack
open Go.RowKit
open Base Bld
set_option linter.unusedVariables false

abbrev xa : ByteArray := ⟨#[120, 1, 2]⟩
abbrev xb : ByteArray := ⟨#[0, 2, 97, 98]⟩
abbrev xc : ByteArray := ⟨#[97, 98]⟩

set_option maxRecDepth 100000 in
set_option maxHeartbeats 1000000 in
theorem awake_any (w : World) :
    Calls Try.prog 7 #[] w fun e w' => e = .returned (.bool true) ∧ Below w.heap.size w w' := by
  have e1 : nuS 258 2 = ⟨#[1, 2]⟩ ∧ nuE 258 2 = 0 := by decide +kernel
  have e2 : txS xc = xb ∧ txE xc = 0 := by decide +kernel
  have e3 : tnV xa 1 2 = 258 ∧ tnTo xa 1 2 = 3 ∧ tnE xa 1 2 = 0 := by decide +kernel
  have e4 : ttS xb 0 = xc ∧ ttTo xb 0 = 4 ∧ ttE xb 0 = 0 := by decide +kernel
  have e5 : lsS [] = ⟨#[0, 0]⟩ ∧ lsE [] = 0 := by decide +kernel
  have e6 : nuS 256 1 = ⟨#[]⟩ ∧ nuE 256 1 = 2 := by decide +kernel
  have c1 := fun w => number_any 258 2 (by decide) (by decide) w
  have c2 := fun w => text_any xc (by decide) w
  have c3 := fun w => takeNumber_any xa (by decide) 1 2 w
  have c4 := fun w => takeText_any xb (by decide) 0 w
  have c5 := fun w => texts_any none 0 0 [] w rfl (by decide) Reads.nil_ (by simp)
  have c6 := fun w => number_any 256 1 (by decide) (by decide) w
  simp only [e1.1, e1.2] at c1
  simp only [e2.1, e2.2] at c2
  simp only [e3.1, e3.2.1, e3.2.2] at c3
  simp only [e4.1, e4.2.1, e4.2.2] at c4
  simp only [e5.1, e5.2] at c5
  simp only [e6.1, e6.2] at c6
  have C1 := Lib.hid c1
  have C2 := Lib.hid c2
  have C3 := Lib.hid c3
  have C4 := Lib.hid c4
  have C5 := Lib.hid c5
  have C6 := Lib.hid c6
  clear e1 e2 e3 e4 e5 e6 c1 c2 c3 c4 c5 c6
  go_enter Try.func7, Try.ntmps7
  go_wp2_with (first
    | (go_at_call 8; (with_reducible refine (C1.out _).mono ?_); rintro e w1 ⟨rfl, p1⟩)
    | (go_at_call 18; (with_reducible refine (C2.out _).mono ?_); rintro e w2 ⟨rfl, p2⟩)
    | (go_at_call 10; (with_reducible refine (C3.out _).mono ?_); rintro e w3 ⟨rfl, p3⟩)
    | (go_at_call 16; (with_reducible refine (C4.out _).mono ?_); rintro e w4 ⟨rfl, p4⟩)
    | (go_at_call 12; (with_reducible refine (C5.out _).mono ?_); rintro e w5 ⟨rfl, p5⟩)
    | (go_at_call 8; (with_reducible refine (C6.out _).mono ?_); rintro e w6 ⟨rfl, p6⟩)
    | fail)
  go_ret
  exact ⟨rfl, p6.from (p5.from (p4.from (p3.from (p2.from p1))))⟩

set_option maxHeartbeats 800000 in
theorem packNumbers_any (n k : Int) (h1 : -9223372036854775808 ≤ n) (h2 : n ≤ 9223372036854775807) (s : ByteArray) (hs : s.size ≤ maxLen) (w : World) :
    Calls Try.prog 3 #[.int .i64 n, .int .i64 k, .string s] w fun e w' => e = .returned (.bool true) ∧ Below w.heap.size w w' := by
  by_cases hl : 10000 < s.size
  · go_enter Try.func3, Try.ntmps3
    go_wp2_with (first | (go_at_call 7; (with_reducible refine (awake_any _).mono ?_); rintro e w1 ⟨rfl, p1⟩) | fail)
    go_ret
    exact ⟨rfl, p1⟩
  · go_enter Try.func3, Try.ntmps3
    go_wp2_with (first
      | (go_at_call 8; (with_reducible refine (number_any n k h1 h2 _).mono ?_); rintro e w1 ⟨rfl, p1⟩)
      | (go_at_call 9; (with_reducible refine (rnumber_any n k h1 h2 _).mono ?_); rintro e w2 ⟨rfl, p2⟩)
      | (go_at_call 10; (with_reducible refine (takeNumber_any s hs n k _).mono ?_); rintro e w3 ⟨rfl, p3⟩)
      | (go_at_call 11; (with_reducible refine (rtakeNumber_any s hs n k _).mono ?_); rintro e w4 ⟨rfl, rfl⟩)
      | (go_at_call 7; (with_reducible refine (awake_any _).mono ?_); rintro e w5 ⟨rfl, p5⟩)
      | fail)
    go_ret
    exact ⟨rfl, p5.from (p3.from (p2.from p1))⟩

end Go.Proofs.Ytamhmbmbcgjbmaa.Pack
