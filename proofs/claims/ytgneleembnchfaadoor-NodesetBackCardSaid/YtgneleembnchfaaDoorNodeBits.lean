/-
  The walks of package nodeset's small questions.
-/
import Derived.Test.YtgneleembnchfaaDoorNodePop
import Derived.Test.YtgneleembnchfaaDoorNodeLib
import Derived.Laws.ShiftsVarLaws
import Derived.Laws.Bits64b
import Derived.BigQuiet
import Derived.Deep.RegionWith
namespace Go.Proofs.YtgneleembnchfaaDoor.Node
open Go.RowKit
open Base
set_option linter.unusedVariables false
set_option linter.unusedSimpArgs false

def nodeB (n : Int) : Bool := decide (0 ≤ n ∧ n < 64)

set_option maxHeartbeats 1000000 in
theorem isNode_any (n : Int) (w : World) :
    Calls Tryd.prog 27 #[.int .i64 n] w fun e w' => e = .returned (.bool (nodeB n)) ∧ w = w' := by
  cases h1 : decide (0 ≤ n) with
  | true =>
    have HX : Hid (nodeB n = decide (n < 64)) := Lib.hid (by unfold nodeB; have := of_decide_eq_true h1; simp [this])
    go_enter Tryd.func27, Tryd.ntmps27
    go_wp2
    go_ret
    exact ⟨ret_bool HX.out.symm, rfl⟩
  | false =>
    have HX : Hid (nodeB n = false) := Lib.hid (by unfold nodeB; have := of_decide_eq_false h1; simp [this])
    go_enter Tryd.func27, Tryd.ntmps27
    go_wp2
    go_ret
    exact ⟨ret_bool HX.out.symm, rfl⟩

theorem and_one (A : Nat) (h : A < 18446744073709551616) : bits BinOp.and IntKind.u64 (A : Int) 1 = ((A % 2 : Nat) : Int) := by
  rw [show (1 : Int) = ((1 : Nat) : Int) from rfl, bits_and_u64_nat A 1 h (by decide), Nat.and_one_is_mod]

theorem not_u64 (A : Nat) (h : A < 18446744073709551616) : bits BinOp.xor IntKind.u64 IntKind.u64.max (A : Int) = ((18446744073709551615 - A : Nat) : Int) := by
  have h1 : (BitVec.ofInt 64 (A : Int)).toNat = A := by rw [BitVec.ofInt_natCast, BitVec.toNat_ofNat]; exact Nat.mod_eq_of_lt (by omega)
  show IntKind.u64.wrap ((BitVec.ofInt 64 IntKind.u64.max ^^^ BitVec.ofInt 64 (A : Int)).toNat : Int) = _
  rw [show BitVec.ofInt 64 IntKind.u64.max = BitVec.allOnes 64 from by decide, BitVec.allOnes_xor, BitVec.toNat_not, h1, IntKind.wrap_u64]
  omega

/-- The set of the first nodes. -/
def allN (n : Int) : Nat := 2 ^ min n.toNat 64 - 1
theorem tb_all (n : Int) (i : Nat) : (allN n).testBit i = decide (i < min n.toNat 64) := by unfold allN; rw [Nat.testBit_two_pow_sub_one]
theorem allN_lt (n : Int) : allN n < 18446744073709551616 := by
  unfold allN
  have : 2 ^ min n.toNat 64 ≤ 2 ^ 64 := Nat.pow_le_pow_right (by decide) (Nat.min_le_right _ _)
  omega

theorem shl_all (k : Nat) (h : k ≤ 64) : IntKind.u64.wrap (18446744073709551615 * 2 ^ k) = ((18446744073709551616 - 2 ^ k : Nat) : Int) := by
  have hp : 2 ^ k ≤ 2 ^ 64 := Nat.pow_le_pow_right (by decide) h
  have hp0 : 0 < 2 ^ k := Nat.two_pow_pos k
  have e : (2 : Int) ^ k = ((2 ^ k : Nat) : Int) := by simp
  rw [IntKind.wrap_u64, e]
  omega

set_option maxHeartbeats 1000000 in
theorem all_any (n : Int) (w : World) :
    Calls Tryd.prog 17 #[.int .i64 n] w fun e w' => e = .returned (.int .u64 (allN n : Int)) ∧ w = w' := by
  obtain ⟨m, hm⟩ : ∃ m, max n 0 = m := ⟨_, rfl⟩
  have h0 : 0 ≤ m := by omega
  have HN : Hid (bits BinOp.xor IntKind.u64 IntKind.u64.max (IntKind.u64.wrap (18446744073709551615 * 2 ^ min m.toNat 64)) = (allN n : Int)) := Lib.hid (by
    have hp : 2 ^ min m.toNat 64 ≤ 2 ^ 64 := Nat.pow_le_pow_right (by decide) (Nat.min_le_right _ _)
    have hp0 : 0 < 2 ^ min m.toNat 64 := Nat.two_pow_pos _
    rw [shl_all _ (Nat.min_le_right _ _), not_u64 _ (by omega)]
    unfold allN
    have : m.toNat = n.toNat := by omega
    rw [this] at hp hp0 ⊢
    omega)
  go_enter Tryd.func17, Tryd.ntmps17
  go_wp2
  go_ret
  exact ⟨ret_int HN.out, rfl⟩

set_option maxHeartbeats 1000000 in
theorem has_any (S : Nat) (hS : S < 18446744073709551616) (s n : Int) (hs : s = (S : Int)) (w : World) :
    Calls Tryd.prog 15 #[.int .u64 s, .int .i64 n] w fun e w' => e = .returned (.bool (hasB S n)) ∧ w = w' := by
  by_cases h : 0 ≤ n ∧ n < 64
  · have hb : nodeB n = true := by unfold nodeB; exact decide_eq_true h
    have C := Lib.hid (fun w => isNode_any n w)
    rw [hb] at C
    clear hb
    have h0 := h.1
    have HN : Hid ((bits BinOp.and IntKind.u64 (s / 2 ^ n.toNat) 1 == 1) = hasB S n) := Lib.hid (by
      have e : s / 2 ^ n.toNat = ((S / 2 ^ n.toNat : Nat) : Int) := by rw [hs]; simp
      rw [e, and_one _ (Nat.lt_of_le_of_lt (Nat.div_le_self _ _) hS)]
      unfold hasB
      rw [decide_eq_true h, Bool.true_and, tb_div, Bool.eq_iff_iff, beq_iff_eq, decide_eq_true_eq]
      omega)
    clear hs
    go_enter Tryd.func15, Tryd.ntmps15
    go_wp2_with (first | (go_at_call 27; (with_reducible refine (C.out _).mono ?_); rintro e w' ⟨rfl, rfl⟩) | fail)
    go_ret
    exact ⟨ret_bool HN.out, rfl⟩
  · have hb : nodeB n = false := by unfold nodeB; exact decide_eq_false h
    have HN : Hid (false = hasB S n) := Lib.hid (by unfold hasB; rw [decide_eq_false h]; rfl)
    have C := Lib.hid (fun w => isNode_any n w)
    rw [hb] at C
    clear hb
    go_enter Tryd.func15, Tryd.ntmps15
    go_wp2_with (first | (go_at_call 27; (with_reducible refine (C.out _).mono ?_); rintro e w' ⟨rfl, rfl⟩) | fail)
    go_ret
    exact ⟨ret_bool HN.out, rfl⟩

theorem and_u64 (A B : Nat) (a : Int) (ha : a = (A : Int)) (hA : A < 18446744073709551616) (hB : B < 18446744073709551616) : bits BinOp.and IntKind.u64 a (B : Int) = ((A &&& B : Nat) : Int) := by
  rw [ha, bits_and_u64_nat A B hA hB]

theorem and127 (A : Nat) (h : A < 9223372036854775808) : bits BinOp.and IntKind.i64 (A : Int) 127 = ((A % 128 : Nat) : Int) := by
  have h1 : (BitVec.ofInt 64 (A : Int)).toNat = A := by rw [BitVec.ofInt_natCast, BitVec.toNat_ofNat]; exact Nat.mod_eq_of_lt (by omega)
  have h2 : (BitVec.ofInt 64 (127 : Int)).toNat = 2 ^ 7 - 1 := by decide
  show IntKind.i64.wrap ((BitVec.ofInt 64 (A : Int) &&& BitVec.ofInt 64 127).toNat : Int) = _
  rw [BitVec.toNat_and, h1, h2, Nat.and_two_pow_sub_one_eq_mod]
  simp [IntKind.wrap, IntKind.bits, IntKind.signed]
  omega

set_option maxHeartbeats 4000000 in
theorem pop_any (S : Nat) (hS : S < 18446744073709551616) (s : Int) (hs : s = (S : Int)) (w : World) :
    Calls Tryd.prog 29 #[.int .u64 s] w fun e w' => e = .returned (.int .i64 (ones 64 S : Int)) ∧ w = w' := by
  obtain ⟨a1, h1⟩ : ∃ a, a = p1 8 S := ⟨_, rfl⟩
  obtain ⟨a2, h2⟩ : ∃ a, a = p2 8 a1 := ⟨_, rfl⟩
  obtain ⟨a3, h3⟩ : ∃ a, a = p3 8 a2 := ⟨_, rfl⟩
  have HR : Hid (fin8 a3 = ones 64 S) := Lib.hid (by rw [h3, h2, h1]; exact g3_all S hS)
  unfold p1 at h1; unfold p2 at h2; unfold p3 at h3
  rw [m85] at h1; rw [m51] at h2; rw [m15] at h3
  have l1 : S / 2 &&& 6148914691236517205 ≤ 6148914691236517205 := Nat.and_le_right
  have l2 : S &&& 6148914691236517205 ≤ 6148914691236517205 := Nat.and_le_right
  have l3 : a1 / 4 &&& 3689348814741910323 ≤ 3689348814741910323 := Nat.and_le_right
  have l4 : a1 &&& 3689348814741910323 ≤ 3689348814741910323 := Nat.and_le_right
  have l5 : (a2 / 16 + a2) &&& 1085102592571150095 ≤ 1085102592571150095 := Nat.and_le_right
  obtain ⟨x1, g1⟩ : ∃ x : Int, x = (a1 : Int) := ⟨_, rfl⟩
  obtain ⟨x2, g2⟩ : ∃ x : Int, x = (a2 : Int) := ⟨_, rfl⟩
  obtain ⟨x3, g3⟩ : ∃ x : Int, x = (a3 : Int) := ⟨_, rfl⟩
  obtain ⟨x4, g4⟩ : ∃ x : Int, x = x3 + x3 / 256 := ⟨_, rfl⟩
  obtain ⟨x5, g5⟩ : ∃ x : Int, x = x4 + x4 / 65536 := ⟨_, rfl⟩
  obtain ⟨x6, g6⟩ : ∃ x : Int, x = x5 + x5 / 4294967296 := ⟨_, rfl⟩
  have q1 : IntKind.u64.wrap (bits BinOp.and IntKind.u64 (s / 2) 6148914691236517205 + bits BinOp.and IntKind.u64 s 6148914691236517205) = x1 := by
    have e1 := and_u64 (S / 2) 6148914691236517205 (s / 2) (by rw [hs]; simp) (by omega) (by decide)
    have e2 := and_u64 S 6148914691236517205 s hs hS (by decide)
    rw [show bits BinOp.and IntKind.u64 (s / 2) 6148914691236517205 = _ from e1, show bits BinOp.and IntKind.u64 s 6148914691236517205 = _ from e2, IntKind.wrap_u64, g1, h1]
    omega
  have q2 : IntKind.u64.wrap (bits BinOp.and IntKind.u64 (x1 / 4) 3689348814741910323 + bits BinOp.and IntKind.u64 x1 3689348814741910323) = x2 := by
    have e1 := and_u64 (a1 / 4) 3689348814741910323 (x1 / 4) (by rw [g1]; simp) (by omega) (by decide)
    have e2 := and_u64 a1 3689348814741910323 x1 g1 (by omega) (by decide)
    rw [show bits BinOp.and IntKind.u64 (x1 / 4) 3689348814741910323 = _ from e1, show bits BinOp.and IntKind.u64 x1 3689348814741910323 = _ from e2, IntKind.wrap_u64, g2, h2]
    omega
  have q3 : bits BinOp.and IntKind.u64 (IntKind.u64.wrap (x2 / 16 + x2)) 1085102592571150095 = x3 := by
    have e1 := and_u64 (a2 / 16 + a2) 1085102592571150095 (IntKind.u64.wrap (x2 / 16 + x2)) (by rw [IntKind.wrap_u64, g2]; omega) (by omega) (by decide)
    rw [show bits BinOp.and IntKind.u64 (IntKind.u64.wrap (x2 / 16 + x2)) 1085102592571150095 = _ from e1, g3, h3]
  have b3 : 0 ≤ x3 ∧ x3 ≤ 1085102592571150095 := by omega
  have q4 : IntKind.u64.wrap (x3 + x3 / 256) = x4 := by rw [IntKind.wrap_u64, g4]; omega
  have b4 : 0 ≤ x4 ∧ x4 ≤ 2000000000000000000 := by omega
  have q5 : IntKind.u64.wrap (x4 + x4 / 65536) = x5 := by rw [IntKind.wrap_u64, g5]; omega
  have b5 : 0 ≤ x5 ∧ x5 ≤ 3000000000000000000 := by omega
  have q6 : IntKind.u64.wrap (x5 + x5 / 4294967296) = x6 := by rw [IntKind.wrap_u64, g6]; omega
  have b6 : 0 ≤ x6 ∧ x6 ≤ 4000000000000000000 := by omega
  have hx : x6 % 128 = (ones 64 S : Int) := by
    rw [← HR.out]
    unfold fin8
    rw [g6, g5, g4, g3]
    simp
  have HX : Hid (bits BinOp.and IntKind.i64 (wrap64 x6) 127 = (ones 64 S : Int)) := Lib.hid (by
    obtain ⟨A, hA⟩ := Int.eq_ofNat_of_zero_le b6.1
    have e : wrap64 x6 = (A : Int) := by rw [← hA]; unfold wrap64; omega
    rw [e, and127 A (by omega), ← hx, hA]
    simp)
  clear g1 g2 g3 g4 g5 g6 h1 h2 h3 hs l1 l2 l3 l4 l5 b3 b4 b5 b6 hx HR
  go_enter Tryd.func29, Tryd.ntmps29
  go_wp2
  go_ret
  exact ⟨ret_int HX.out, rfl⟩

/-- Count: how many members. -/
theorem count_any (S : Nat) (hS : S < 18446744073709551616) (s : Int) (hs : s = (S : Int)) (w : World) :
    Calls Tryd.prog 14 #[.int .u64 s] w fun e w' => e = .returned (.int .i64 ((mem S).length : Int)) ∧ w = w' := by
  have HL := Lib.hid (mem_length S)
  have C := Lib.hid (fun w => pop_any S hS s hs w)
  clear hs
  go_enter Tryd.func14, Tryd.ntmps14
  go_wp2_with (first | (go_at_call 29; (with_reducible refine (C.out _).mono ?_); rintro e w' ⟨rfl, rfl⟩) | fail)
  go_ret
  exact ⟨by rw [HL.out]; rfl, rfl⟩

theorem soMany_any (S : Nat) (hS : S < 18446744073709551616) (s n : Int) (hs : s = (S : Int)) (w : World) :
    Calls Tryd.prog 31 #[.int .u64 s, .int .i64 n] w fun e w' => e = .returned (.bool (soMany S n)) ∧ w = w' := by
  have HX : Hid (soMany S n = decide (0 ≤ n ∧ n ≤ ((mem S).length : Int))) := Lib.hid rfl
  have C := Lib.hid (fun w => count_any S hS s hs w)
  obtain ⟨c, hc⟩ : ∃ c : Int, c = ((mem S).length : Int) := ⟨_, rfl⟩
  rw [← hc] at C HX
  clear hc hs
  by_cases h : 0 ≤ n
  · have hd : decide (0 ≤ n) = true := decide_eq_true h
    have HX : Hid (decide (n ≤ c) = soMany S n) := Lib.hid (by rw [HX.out]; simp [h])
    go_enter Tryd.func31, Tryd.ntmps31
    go_wp2_with (first | (go_at_call 14; (with_reducible refine (C.out _).mono ?_); rintro e w' ⟨rfl, rfl⟩) | fail)
    go_ret
    exact ⟨ret_bool HX.out, rfl⟩
  · have hd : decide (0 ≤ n) = false := decide_eq_false h
    have HX : Hid (false = soMany S n) := Lib.hid (by rw [HX.out]; simp [h])
    go_enter Tryd.func31, Tryd.ntmps31
    go_wp2_with (first | (go_at_call 14; (with_reducible refine (C.out _).mono ?_); rintro e w' ⟨rfl, rfl⟩) | fail)
    go_ret
    exact ⟨ret_bool HX.out, rfl⟩

end Go.Proofs.YtgneleembnchfaaDoor.Node
