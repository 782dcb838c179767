/-
  The walks of the statements of layer 9 over texts: NodesetTexts, NodesetBack; and of a set's parts: NodesetParts.
-/
import Derived.Test.YtgneleembnchfaaDoorLaw09
namespace Go.Proofs.YtgneleembnchfaaDoor.Node
open Go.RowKit
open Base NodeLib
set_option linter.unusedVariables false
set_option linter.unusedSimpArgs false

set_option maxRecDepth 100000 in
set_option maxHeartbeats 4000000 in
theorem nodesetTexts_any (s : Int) (T : ByteArray) (h0 : 0 ≤ s) (h1 : s ≤ 18446744073709551615) (hTs : T.size ≤ maxLen) (w : World) (hT : Tb w) :
    Calls Tryd.prog 5 #[.int .u64 s, .string T] w fun e w' => e = .returned (.bool true) ∧ Below w.heap.size w w' := by
  have HT := Lib.hid hT
  have C0 := Lib.hid awake_any
  by_cases h5 : 2000 < T.size
  · have t1 : decide ((2000 : Int) < (T.size : Int)) = true := decide_eq_true (by omega)
    have t2 : decide (2000 < T.size) = true := decide_eq_true h5
    clear hT
    go_enter Tryd.func5, Tryd.ntmps5
    go_wp2_with (first
      | (go_at_call 8; (with_reducible refine (C0.out _ HT.out).mono ?_); rintro e w5 ⟨rfl, p5⟩)
      | fail)
    go_ret
    exact ⟨rfl, p5⟩
  · have t1 : decide ((2000 : Int) < (T.size : Int)) = false := decide_eq_false (by omega)
    have t2 : decide (2000 < T.size) = false := decide_eq_false h5
    obtain ⟨S, hs⟩ := Int.eq_ofNat_of_zero_le h0
    have hS : S < 18446744073709551616 := by omega
    have C1 := Lib.hid (fun w hT => parse_any T (by omega) w hT)
    have C2 := Lib.hid (fun w => rparse_any T (by omega) w)
    have C3 := Lib.hid (fun w hT => show_any S hS s hs w hT)
    have C4 := Lib.hid (fun w => rshow_any S hS s hs w)
    obtain ⟨Z, hZ⟩ : ∃ Z, Z = (⟨(showT (mem S)).toArray⟩ : ByteArray) := ⟨_, rfl⟩
    rw [← hZ] at C3 C4
    clear hs hT h0 h1 hZ
    go_enter Tryd.func5, Tryd.ntmps5
    go_wp2_with (first
      | (go_at_call 23; (with_reducible refine (C1.out _ HT.out).mono ?_); rintro e w1 ⟨rfl, p1⟩)
      | (go_at_call 24; (with_reducible refine (C2.out _).mono ?_); rintro e w2 ⟨rfl, p2⟩)
      | (go_at_call 25; (with_reducible refine (C3.out _ (HT.out.later (p2.from p1))).mono ?_); rintro e w3 ⟨rfl, p3⟩)
      | (go_at_call 26; (with_reducible refine (C4.out _).mono ?_); rintro e w4 ⟨rfl, p4⟩)
      | (go_at_call 8; (with_reducible refine (C0.out _ (HT.out.later (p4.from (p3.from (p2.from p1))))).mono ?_); rintro e w5 ⟨rfl, p5⟩)
      | fail)
    go_ret
    exact ⟨rfl, p5.from (p4.from (p3.from (p2.from p1)))⟩

set_option maxRecDepth 100000 in
set_option maxHeartbeats 4000000 in
theorem nodesetBack_any (s : Int) (T : ByteArray) (h0 : 0 ≤ s) (h1 : s ≤ 18446744073709551615) (hTs : T.size ≤ maxLen) (w : World) (hT : Tb w) :
    Calls Tryd.prog 6 #[.int .u64 s, .string T] w fun e w' => e = .returned (.bool true) ∧ Below w.heap.size w w' := by
  have HT := Lib.hid hT
  have C0 := Lib.hid awake_any
  by_cases h5 : 2000 < T.size
  · have t1 : decide ((2000 : Int) < (T.size : Int)) = true := decide_eq_true (by omega)
    have t2 : decide (2000 < T.size) = true := decide_eq_true h5
    clear hT
    go_enter Tryd.func6, Tryd.ntmps6
    go_wp2_with (first
      | (go_at_call 8; (with_reducible refine (C0.out _ HT.out).mono ?_); rintro e w5 ⟨rfl, p5⟩)
      | fail)
    go_ret
    exact ⟨rfl, p5⟩
  · have t1 : decide ((2000 : Int) < (T.size : Int)) = false := decide_eq_false (by omega)
    have t2 : decide (2000 < T.size) = false := decide_eq_false h5
    obtain ⟨S, hs⟩ := Int.eq_ofNat_of_zero_le h0
    have hS : S < 18446744073709551616 := by omega
    have hml := mem_length_le S
    have HLI : Hid ((ints (mem S)).length = (mem S).length) := Lib.hid (ints_length _)
    have hb := back_of S hS
    have C1 := Lib.hid (fun w => list_any S hS s hs w)
    have C2 := fun a cap w hr => of_any a (mem S).length cap (ints (mem S)) w HLI.out (by omega) hr
    rw [hb.1, hb.2, ← hs] at C2
    have C2 := Lib.hid C2
    have C3 := Lib.hid (fun w hT => show_any S hS s hs w hT)
    obtain ⟨Z, hZ⟩ : ∃ Z, Z = (⟨(showT (mem S)).toArray⟩ : ByteArray) := ⟨_, rfl⟩
    have hps := parse_show S hS
    have C4 := fun w hT => parse_any Z (by rw [hZ, Lib.size_eq]; show (showT (mem S)).length ≤ _; have := show_length S; omega) w hT
    rw [show Z.data.toList = showT (mem S) from by rw [hZ], hps.1, hps.2, ← hs] at C4
    have C4 := Lib.hid C4
    rw [← hZ] at C3
    have C5 := Lib.hid (fun w hT => parse_any T (by omega) w hT)
    have HPS : Hid (parseS T.data.toList = if showT (mem (guessN T.data.toList)) = T.data.toList then guessN T.data.toList else 0) := Lib.hid rfl
    have HPE : Hid (parseE T.data.toList = if showT (mem (guessN T.data.toList)) = T.data.toList then 0 else 90) := Lib.hid rfl
    by_cases h : showT (mem (guessN T.data.toList)) = T.data.toList
    · rw [if_pos h] at HPS HPE
      rw [HPS.out, HPE.out] at C5
      obtain ⟨g, hg⟩ : ∃ g : Int, g = (guessN T.data.toList : Int) := ⟨_, rfl⟩
      have C6 := Lib.hid (fun w hT => show_any (guessN T.data.toList) (guessN_lt _) g hg w hT)
      rw [h] at C6
      obtain ⟨Y, hY⟩ : ∃ Y, Y = (⟨T.data.toList.toArray⟩ : ByteArray) := ⟨_, rfl⟩
      rw [← hY] at C6
      have t3 : (Y.toList == T.toList) = true := by rw [beq_iff_eq, hY, Lib.mk_data]
      rw [← hg] at C5
      clear hs hT h0 h1 hZ hb hps hg hY h HPS HPE
      go_enter Tryd.func6, Tryd.ntmps6
      go_wp2_with (first
        | (go_at_call 13; (with_reducible refine (C1.out _).mono ?_); rintro e w1 ⟨bo, cb, rfl, r4, n4, k4, m4, p1⟩; have R4 := Lib.hid r4; have P1 := Lib.hid p1; clear r4 n4 k4 m4 p1)
        | (go_at_call 9; (with_reducible refine (C2.out _ _ _ R4.out).mono ?_); rintro e w2 ⟨rfl, rfl⟩)
        | (go_at_call 25; (with_reducible refine (C3.out _ (HT.out.later P1.out)).mono ?_); rintro e w3 ⟨rfl, p3⟩)
        | (go_at_call 23; (with_reducible refine (C4.out _ (HT.out.later (p3.from P1.out))).mono ?_); rintro e w4 ⟨rfl, p4⟩)
        | (go_at_call 23; (with_reducible refine (C5.out _ (HT.out.later (p4.from (p3.from P1.out)))).mono ?_); rintro e w5 ⟨rfl, p5⟩)
        | (go_at_call 25; (with_reducible refine (C6.out _ (HT.out.later (p5.from (p4.from (p3.from P1.out))))).mono ?_); rintro e w6 ⟨rfl, p6⟩)
        | (go_at_call 8; (with_reducible refine (C0.out _ (HT.out.later (p6.from (p5.from (p4.from (p3.from P1.out)))))).mono ?_); rintro e w7 ⟨rfl, p7⟩)
        | fail)
      go_ret
      exact ⟨rfl, p7.from (p6.from (p5.from (p4.from (p3.from P1.out))))⟩
    · rw [if_neg h] at HPS HPE
      rw [HPS.out, HPE.out] at C5
      clear hs hT h0 h1 hZ hb hps h HPS HPE
      go_enter Tryd.func6, Tryd.ntmps6
      go_wp2_with (first
        | (go_at_call 13; (with_reducible refine (C1.out _).mono ?_); rintro e w1 ⟨bo, cb, rfl, r4, n4, k4, m4, p1⟩; have R4 := Lib.hid r4; have P1 := Lib.hid p1; clear r4 n4 k4 m4 p1)
        | (go_at_call 9; (with_reducible refine (C2.out _ _ _ R4.out).mono ?_); rintro e w2 ⟨rfl, rfl⟩)
        | (go_at_call 25; (with_reducible refine (C3.out _ (HT.out.later P1.out)).mono ?_); rintro e w3 ⟨rfl, p3⟩)
        | (go_at_call 23; (with_reducible refine (C4.out _ (HT.out.later (p3.from P1.out))).mono ?_); rintro e w4 ⟨rfl, p4⟩)
        | (go_at_call 23; (with_reducible refine (C5.out _ (HT.out.later (p4.from (p3.from P1.out)))).mono ?_); rintro e w5 ⟨rfl, p5⟩)
        | (go_at_call 8; (with_reducible refine (C0.out _ (HT.out.later (p5.from (p4.from (p3.from P1.out))))).mono ?_); rintro e w7 ⟨rfl, p7⟩)
        | fail)
      go_ret
      exact ⟨rfl, p7.from (p5.from (p4.from (p3.from P1.out)))⟩

set_option maxRecDepth 100000 in
set_option maxHeartbeats 4000000 in
theorem nodesetParts_any (s n : Int) (h0 : 0 ≤ s) (h1 : s ≤ 18446744073709551615) (w : World) (hT : Tb w) :
    Calls Tryd.prog 7 #[.int .u64 s, .int .i64 n] w fun e w' => e = .returned (.bool true) ∧ Below w.heap.size w w' := by
  have HT := Lib.hid hT
  have C0 := Lib.hid awake_any
  obtain ⟨S, hs⟩ := Int.eq_ofNat_of_zero_le h0
  have hS : S < 18446744073709551616 := by omega
  have C1 := Lib.hid (fun w => low_any S hS s n hs w)
  have C2 := Lib.hid (fun w => count_any S hS s hs w)
  have hml := mem_length_le S
  have HL : Hid (lowS S n = if soMany S n = true then setOf ((mem S).take n.toNat) else 0) := Lib.hid rfl
  have HM : Hid (soMany S n = decide (0 ≤ n ∧ n ≤ ((mem S).length : Int))) := Lib.hid rfl
  obtain ⟨c, hc⟩ : ∃ c : Int, c = ((mem S).length : Int) := ⟨_, rfl⟩
  have hc0 : 0 ≤ c ∧ c ≤ 64 := by omega
  rw [← hc] at C2 HM
  cases hm : soMany S n with
  | false =>
    rw [hm] at C1 HL HM
    rw [if_neg (by decide)] at HL
    rw [HL.out] at C1
    have hno := of_decide_eq_false HM.out.symm
    by_cases hn : n < 0
    · have t1 : decide (n < 0) = true := decide_eq_true hn
      clear hs hT h0 h1 hc hm HL HM hno
      go_enter Tryd.func7, Tryd.ntmps7
      go_wp2_with (first
        | (go_at_call 19; (with_reducible refine (C1.out _).mono ?_); rintro e w1 ⟨rfl, rfl⟩)
        | (go_at_call 14; (with_reducible refine (C2.out _).mono ?_); rintro e w2 ⟨rfl, rfl⟩)
        | (go_at_call 8; (with_reducible refine (C0.out _ HT.out).mono ?_); rintro e w5 ⟨rfl, p5⟩)
        | fail)
      go_ret
      exact ⟨rfl, p5⟩
    · have t1 : decide (n < 0) = false := decide_eq_false hn
      have t2 : decide (c < n) = true := decide_eq_true (by omega)
      clear hs hT h0 h1 hc hm HL HM hno
      go_enter Tryd.func7, Tryd.ntmps7
      go_wp2_with (first
        | (go_at_call 19; (with_reducible refine (C1.out _).mono ?_); rintro e w1 ⟨rfl, rfl⟩)
        | (go_at_call 14; (with_reducible refine (C2.out _).mono ?_); rintro e w2 ⟨rfl, rfl⟩)
        | (go_at_call 8; (with_reducible refine (C0.out _ HT.out).mono ?_); rintro e w5 ⟨rfl, p5⟩)
        | fail)
      go_ret
      exact ⟨rfl, p5⟩
  | true =>
    rw [hm] at C1 HL HM
    rw [if_pos rfl] at HL
    obtain ⟨n0, n1⟩ := of_decide_eq_true HM.out.symm
    have hm2 : soMany S (c - n) = true := by unfold soMany; rw [decide_eq_true_eq]; omega
    have C3 := Lib.hid (fun w => high_any S hS s (c - n) hs w)
    have hH : highS S (c - n) = setOf ((mem S).drop n.toNat) := by
      unfold highS
      rw [if_pos hm2, show (mem S).length - (c - n).toNat = n.toNat by omega]
    rw [hm2, hH] at C3
    rw [HL.out] at C1
    have hlo := take_lt S n.toNat
    have hhi := drop_lt S n.toNat
    have b1 := parts_and S n.toNat
    have b2 := parts_or S n.toNat hS
    have b3 := parts_count S n.toNat (by omega)
    have b4 := parts_below S n.toNat
    obtain ⟨A, hA⟩ : ∃ A, A = setOf ((mem S).take n.toNat) := ⟨_, rfl⟩
    obtain ⟨B, hB⟩ : ∃ B, B = setOf ((mem S).drop n.toNat) := ⟨_, rfl⟩
    rw [← hA] at C1 hlo b1 b2 b3 b4
    rw [← hB] at C3 hhi b1 b2 b4
    obtain ⟨x, hx⟩ : ∃ x : Int, x = (A : Int) := ⟨_, rfl⟩
    obtain ⟨y, hy⟩ : ∃ y : Int, y = (B : Int) := ⟨_, rfl⟩
    have C4 := Lib.hid (fun w => count_any A hlo x hx w)
    rw [b3, show ((n.toNat : Nat) : Int) = n by omega] at C4
    rw [← hx] at C1
    rw [← hy] at C3
    have q1 : bits BinOp.and IntKind.u64 x y = 0 := by rw [hx, hy, bits_and_u64_nat _ _ hlo hhi, b1]; rfl
    have q2 : bits BinOp.or IntKind.u64 x y = s := by rw [hx, hy, bits_or_u64_nat _ _ hlo hhi, b2, hs]
    have hw2 : wrap64 (c - n) = c - n := by unfold wrap64; omega
    by_cases hB0 : B = 0
    · have t2 : (y == 0) = true := by rw [beq_iff_eq]; omega
      clear hs hT h0 h1 hc hm HL HM hm2 hH hlo hhi b1 b2 b3 b4 hA hB hx hy hB0
      cases t1 : (x == 0) with
      | true =>
        go_enter Tryd.func7, Tryd.ntmps7
        go_wp2_with (first
          | (go_at_call 19; (with_reducible refine (C1.out _).mono ?_); rintro e w1 ⟨rfl, rfl⟩)
          | (go_at_call 14; (with_reducible refine (C2.out _).mono ?_); rintro e w2 ⟨rfl, rfl⟩)
          | (go_at_call 21; (with_reducible refine (C3.out _).mono ?_); rintro e w3 ⟨rfl, rfl⟩)
          | (go_at_call 14; (with_reducible refine (C4.out _).mono ?_); rintro e w4 ⟨rfl, rfl⟩)
          | (go_at_call 8; (with_reducible refine (C0.out _ HT.out).mono ?_); rintro e w5 ⟨rfl, p5⟩)
          | fail)
        go_ret
        exact ⟨rfl, p5⟩
      | false =>
        go_enter Tryd.func7, Tryd.ntmps7
        go_wp2_with (first
          | (go_at_call 19; (with_reducible refine (C1.out _).mono ?_); rintro e w1 ⟨rfl, rfl⟩)
          | (go_at_call 14; (with_reducible refine (C2.out _).mono ?_); rintro e w2 ⟨rfl, rfl⟩)
          | (go_at_call 21; (with_reducible refine (C3.out _).mono ?_); rintro e w3 ⟨rfl, rfl⟩)
          | (go_at_call 14; (with_reducible refine (C4.out _).mono ?_); rintro e w4 ⟨rfl, rfl⟩)
          | (go_at_call 8; (with_reducible refine (C0.out _ HT.out).mono ?_); rintro e w5 ⟨rfl, p5⟩)
          | fail)
        go_ret
        exact ⟨rfl, p5⟩
    · have t2 : (y == 0) = false := by rw [beq_eq_false_iff_ne]; omega
      have b5 := b4 hB0
      have e1 : IntKind.u64.wrap (-y) = ((18446744073709551616 - B : Nat) : Int) := by rw [IntKind.wrap_u64, hy]; omega
      obtain ⟨z, hz⟩ : ∃ z : Int, z = ((18446744073709551616 - B : Nat) : Int) := ⟨_, rfl⟩
      obtain ⟨v, hv⟩ : ∃ v : Int, v = ((B &&& (18446744073709551616 - B) : Nat) : Int) := ⟨_, rfl⟩
      have q4 : bits BinOp.and IntKind.u64 y z = v := by rw [hy, hz, bits_and_u64_nat _ _ hhi (by omega), hv]
      rw [← hz] at e1
      have t3 : decide (x < v) = true := decide_eq_true (by rw [hx, hv]; exact Int.ofNat_lt.2 b5)
      clear hs hT h0 h1 hc hm HL HM hm2 hH hlo hhi b1 b2 b3 b4 b5 hA hB hx hy hz hv hB0
      cases t1 : (x == 0) with
      | true =>
        go_enter Tryd.func7, Tryd.ntmps7
        go_wp2_with (first
          | (go_at_call 19; (with_reducible refine (C1.out _).mono ?_); rintro e w1 ⟨rfl, rfl⟩)
          | (go_at_call 14; (with_reducible refine (C2.out _).mono ?_); rintro e w2 ⟨rfl, rfl⟩)
          | (go_at_call 21; (with_reducible refine (C3.out _).mono ?_); rintro e w3 ⟨rfl, rfl⟩)
          | (go_at_call 14; (with_reducible refine (C4.out _).mono ?_); rintro e w4 ⟨rfl, rfl⟩)
          | (go_at_call 8; (with_reducible refine (C0.out _ HT.out).mono ?_); rintro e w5 ⟨rfl, p5⟩)
          | fail)
        go_ret
        exact ⟨rfl, p5⟩
      | false =>
        go_enter Tryd.func7, Tryd.ntmps7
        go_wp2_with (first
          | (go_at_call 19; (with_reducible refine (C1.out _).mono ?_); rintro e w1 ⟨rfl, rfl⟩)
          | (go_at_call 14; (with_reducible refine (C2.out _).mono ?_); rintro e w2 ⟨rfl, rfl⟩)
          | (go_at_call 21; (with_reducible refine (C3.out _).mono ?_); rintro e w3 ⟨rfl, rfl⟩)
          | (go_at_call 14; (with_reducible refine (C4.out _).mono ?_); rintro e w4 ⟨rfl, rfl⟩)
          | (go_at_call 8; (with_reducible refine (C0.out _ HT.out).mono ?_); rintro e w5 ⟨rfl, p5⟩)
          | fail)
        go_ret
        exact ⟨rfl, p5⟩

end Go.Proofs.YtgneleembnchfaaDoor.Node
