/-
  The contracts of package pack that lay: isWidth, layNumber, Number, layText, Text, Texts.
-/
import Derived.Test.YtamhmbmbcgjbmaaBuilder
import Derived.Test.YtamhmbmbcgjbmaaPackMath
import Derived.IntWalk
namespace Go.Proofs.Ytamhmbmbcgjbmaa.Pack
open Go.RowKit
open Base Bld
set_option linter.unusedVariables false

theorem isW_eq (w : Int) : isW w = (decide (w = 1) || decide (w = 2) || decide (w = 4) || decide (w = 8)) := by
  unfold isW; simp only [Bool.decide_or, Bool.or_assoc]

set_option maxHeartbeats 400000 in
theorem isWidth_any (n : Int) (w : World) :
    Calls Try.prog 21 #[.int .i64 n] w fun e w' => e = .returned (.bool (isW n)) ∧ w = w' := by
  obtain ⟨b, hb⟩ : ∃ b, b = isW n := ⟨_, rfl⟩
  rw [← hb]
  rw [isW_eq] at hb
  have HB := Lib.hid hb
  clear hb
  go_enter Try.func21, Try.ntmps21
  go_wp2
  all_goals
    go_ret
    refine ⟨ret_bool ?_, rfl⟩
    rw [HB.out, Bool.eq_iff_iff]
    simp [*]

theorem writeByte_int (w w1 : World) (B b : Nat) (l : List UInt8) (c : Int) (x : UInt8) (hc : c = (x.toNat : Int)) (h : Bld w B b l w1) (hl : l.length < 140737488355328) :
    Calls Try.prog 30 #[.pointer (some ⟨b, 0, none⟩), .int .u8 c] w1 fun e w' => e = .returned .nilIface ∧ Bld w B b (l ++ [x]) w' := by
  subst hc; exact writeByte_at w w1 B b l x h hl

theorem shifted (n i : Nat) : (n : Int) / 2 ^ (8 * i) % 256 = ((UInt8.ofNat (n / 256 ^ i)).toNat : Int) := by
  rw [UInt8.toNat_ofNat', show (256 : Nat) ^ i = 2 ^ (8 * i) by rw [Nat.pow_mul]]
  simp

set_option maxHeartbeats 400000 in
theorem layNumber_at (w w1 : World) (B b : Nat) (l : List UInt8) (n k : Nat) (h : Bld w B b l w1) (hl : l.length + k < 140737488355328) (hk : k ≤ 8) (hn : n ≤ 9223372036854775807) :
    Calls Try.prog 22 #[.pointer (some ⟨b, 0, none⟩), .int .i64 (n : Int), .int .i64 (k : Int)] w1 fun e w' => e = .returned (.tuple #[]) ∧ Bld w B b (l ++ numB n k) w' := by
  have H := Lib.hid h
  clear h
  go_enter Try.func22, Try.ntmps22
  go_wp2
  go_loopw [6] (fun i wr => ∃ (j : Nat) (m : List UInt8), j ≤ k ∧ i = .int .i64 ((j : Int) - 1) ∧ m ++ numB n j = l ++ numB n k ∧ Bld w B b m wr) (fun i _ => (intOf i + 1).toNat)
  case atStart => exact ⟨k, l, Nat.le_refl _, rfl, rfl, H.out⟩
  case round =>
    obtain ⟨j, m, hj, rfl, hm, hB⟩ := hrel
    have HB := Lib.hid hB
    have HM := Lib.hid hm
    clear hB hm
    by_cases h0 : 0 < j
    · obtain ⟨i, rfl⟩ : ∃ i, j = i + 1 := ⟨j - 1, by omega⟩
      have h8 : (8 : Int) * (i : Int) ≤ 63 := by omega
      have e1 : ((i + 1 : Nat) : Int) - 1 = (i : Int) := by omega
      rw [e1]
      have HN : Hid ((m ++ [UInt8.ofNat (n / 256 ^ i)]) ++ numB n i = l ++ numB n k) := Lib.hid (by rw [← HM.out]; simp [numB])
      have HL : Hid (m.length < 140737488355328) := Lib.hid (by
        have := congrArg List.length HM.out; simp [numB_length] at this; omega)
      have HX := Lib.hid (shifted n i)
      clear HM e1
      go_wp2_with (go_at_call 30; (with_reducible refine (writeByte_int _ _ B b m _ _ HX.out HB.out HL.out).mono ?_); rintro e w' ⟨rfl, h2⟩)
      go_roundw
      case rel => exact ⟨i, _, by omega, by go_num, HN.out, h2⟩
      case measure => simp [intOf]
    · obtain rfl : j = 0 := by omega
      go_wp2
      go_end0
      exact ⟨rfl, by have := HM.out; simp [numB] at this; rw [← this]; exact HB.out⟩

theorem layNumber_int (w w1 : World) (B b : Nat) (l : List UInt8) (n k : Int) (N K : Nat) (en : n = (N : Int)) (ek : k = (K : Int)) (h : Bld w B b l w1) (hl : l.length + K < 140737488355328) (hk : K ≤ 8) (hn : N ≤ 9223372036854775807) :
    Calls Try.prog 22 #[.pointer (some ⟨b, 0, none⟩), .int .i64 n, .int .i64 k] w1 fun e w' => e = .returned (.tuple #[]) ∧ Bld w B b (l ++ numB N K) w' := by
  subst en ek; exact layNumber_at w w1 B b l N K h hl hk hn

theorem ret_se {a b : ByteArray} {c d : Int} (h : a = b) (h' : c = d) : Ending.returned (.tuple #[.string a, .int .i64 c]) = .returned (.tuple #[.string b, .int .i64 d]) := by rw [h, h']

theorem nu_no {n k : Int} (h : numOK n k = false) : (⟨#[]⟩ : ByteArray) = nuS n k ∧ (2 : Int) = nuE n k := by
  unfold nuS nuE; rw [h]; exact ⟨rfl, rfl⟩

theorem pow_shift (K : Nat) : (2 : Int) ^ (8 * K) = ((256 ^ K : Nat) : Int) := by
  rw [Int.natCast_pow, Int.pow_mul]; rfl

theorem fits (m K : Nat) : ((m : Int) / 2 ^ (8 * K) != 0) = !decide (m < 256 ^ K) := by
  rw [pow_shift, ← Int.natCast_ediv]
  have hp : 0 < 256 ^ K := Nat.pow_pos (by omega)
  by_cases h : m < 256 ^ K
  · rw [Nat.div_eq_of_lt h]; simp [h]
  · have : 0 < m / 256 ^ K := Nat.div_pos (by omega) hp
    simp only [h, decide_false, Bool.not_false, bne_iff_ne]; omega

theorem numOK_nat {m K : Nat} (hw : isW (K : Int) = true) : numOK (m : Int) (K : Int) = decide (m < 256 ^ K) := by
  unfold numOK; rw [hw, Bool.true_and, decide_eq_decide, Int.toNat_natCast]
  have e : ((256 : Int) ^ K) = ((256 ^ K : Nat) : Int) := by rw [Int.natCast_pow]; rfl
  rw [e]; omega

theorem nu_yes {m K : Nat} (hw : isW (K : Int) = true) (h : m < 256 ^ K) : (⟨(numB m K).toArray⟩ : ByteArray) = nuS (m : Int) (K : Int) ∧ (0 : Int) = nuE (m : Int) (K : Int) := by
  unfold nuS nuE; rw [numOK_nat hw, decide_eq_true h]; exact ⟨rfl, rfl⟩

theorem isW_nat {k : Int} (h : isW k = true) : ∃ K : Nat, k = (K : Int) ∧ K ≤ 8 ∧ 0 < K := by
  rcases (show k = 1 ∨ k = 2 ∨ k = 4 ∨ k = 8 by simpa [isW] using h) with rfl | rfl | rfl | rfl
  · exact ⟨1, rfl, by omega, by omega⟩
  · exact ⟨2, rfl, by omega, by omega⟩
  · exact ⟨4, rfl, by omega, by omega⟩
  · exact ⟨8, rfl, by omega, by omega⟩

set_option maxHeartbeats 800000 in
theorem number_any (n k : Int) (h1 : -9223372036854775808 ≤ n) (h2 : n ≤ 9223372036854775807) (w : World) :
    Calls Try.prog 8 #[.int .i64 n, .int .i64 k] w fun e w' => e = .returned (.tuple #[.string (nuS n k), .int .i64 (nuE n k)]) ∧ Below w.heap.size w w' := by
  by_cases hw : isW k = true
  · by_cases h0 : n < 0
    · have hn : numOK n k = false := by unfold numOK; simp; intro _ h; omega
      have HN := Lib.hid (nu_no hn)
      clear hn
      go_enter Try.func8, Try.ntmps8
      go_wp2_with (first | (go_at_call 21; (with_reducible refine (isWidth_any _ _).mono ?_); rintro e w' ⟨rfl, rfl⟩) | fail)
      go_ret2
      exact ⟨ret_se HN.out.1 HN.out.2, Below.refl _ _⟩
    · obtain ⟨m, rfl⟩ := Int.eq_ofNat_of_zero_le (show 0 ≤ n by omega)
      obtain ⟨K, rfl, hK, _⟩ := isW_nat hw
      have h8 : (8 : Int) * (K : Int) ≤ 64 := by omega
      have hf := fits m K
      by_cases hm : m < 256 ^ K
      · rw [decide_eq_true hm, Bool.not_true] at hf
        have HN := Lib.hid (nu_yes hw hm)
        have hb := bld_new w w (Below.refl _ _) _ rfl
        have HB := Lib.hid hb
        have HK : Hid (([] : List UInt8).length + K < 140737488355328) := Lib.hid (by simp; omega)
        have HM : Hid (m ≤ 9223372036854775807) := Lib.hid (by omega)
        clear hb hm
        go_enter Try.func8, Try.ntmps8
        go_wp2_with (first
          | (go_at_call 21; (with_reducible refine (isWidth_any _ _).mono ?_); rintro e w' ⟨rfl, rfl⟩)
          | (go_at_call 22; (with_reducible refine (layNumber_at w _ _ _ [] m K HB.out HK.out hK HM.out).mono ?_); rintro e w1 ⟨rfl, p1⟩)
          | (go_at_call 23; (with_reducible refine (string_at w _ _ _ _ p1).mono ?_); rintro e w2 ⟨rfl, p2⟩)
          | fail)
        go_ret2
        exact ⟨ret_se HN.out.1 HN.out.2, p2⟩
      · rw [decide_eq_false hm, Bool.not_false] at hf
        have HN := Lib.hid (nu_no (n := (m : Int)) (k := (K : Int)) (by rw [numOK_nat hw, decide_eq_false hm]))
        clear hm
        go_enter Try.func8, Try.ntmps8
        go_wp2_with (first | (go_at_call 21; (with_reducible refine (isWidth_any _ _).mono ?_); rintro e w' ⟨rfl, rfl⟩) | fail)
        go_ret2
        exact ⟨ret_se HN.out.1 HN.out.2, Below.refl _ _⟩
  · have hw : isW k = false := by simpa using hw
    have HN := Lib.hid (nu_no (n := n) (k := k) (by unfold numOK; rw [hw]; rfl))
    go_enter Try.func8, Try.ntmps8
    go_wp2_with (first | (go_at_call 21; (with_reducible refine (isWidth_any _ _).mono ?_); rintro e w' ⟨rfl, rfl⟩) | fail)
    go_ret2
    exact ⟨ret_se HN.out.1 HN.out.2, Below.refl _ _⟩

set_option maxHeartbeats 400000 in
theorem layText_at (w w1 : World) (B b : Nat) (l : List UInt8) (s : ByteArray) (h : Bld w B b l w1) (hl : l.length + 2 + s.size < 140737488355328) (hs : s.size ≤ 65535) :
    Calls Try.prog 28 #[.pointer (some ⟨b, 0, none⟩), .string s] w1 fun e w' => e = .returned (.tuple #[]) ∧ Bld w B b (l ++ txB s) w' := by
  have H := Lib.hid h
  have HL : Hid (l.length + 2 < 140737488355328) := Lib.hid (by omega)
  have HL2 : Hid ((l ++ numB s.size 2).length + s.size ≤ 140737488355328) := Lib.hid (by simp [numB_length]; omega)
  have HS : Hid (s.size ≤ 9223372036854775807) := Lib.hid (by omega)
  clear h hl
  go_enter Try.func28, Try.ntmps28
  go_wp2_with (first
    | (go_at_call 22; (with_reducible refine (layNumber_int w _ B b l _ 2 s.size 2 rfl (by decide) H.out HL.out (by decide) HS.out).mono ?_); rintro e w1 ⟨rfl, p1⟩)
    | (go_at_call 34; (with_reducible refine (writeString_at w _ B b _ s p1 HL2.out).mono ?_); rintro e w2 ⟨rfl, p2⟩)
    | fail)
  go_end0
  exact ⟨rfl, by unfold txB; rw [← List.append_assoc]; exact p2⟩

set_option maxHeartbeats 400000 in
theorem text_any (s : ByteArray) (hs : s.size ≤ maxLen) (w : World) :
    Calls Try.prog 18 #[.string s] w fun e w' => e = .returned (.tuple #[.string (txS s), .int .i64 (txE s)]) ∧ Below w.heap.size w w' := by
  unfold maxLen at hs
  by_cases h : 65535 < s.size
  · have HT : Hid ((⟨#[]⟩ : ByteArray) = txS s ∧ (3 : Int) = txE s) := Lib.hid (by unfold txS txE bigB; rw [decide_eq_true h]; exact ⟨rfl, rfl⟩)
    go_enter Try.func18, Try.ntmps18
    go_wp2_with fail
    go_ret2
    exact ⟨ret_se HT.out.1 HT.out.2, Below.refl _ _⟩
  · have HT : Hid ((⟨([] ++ txB s).toArray⟩ : ByteArray) = txS s ∧ (0 : Int) = txE s) := Lib.hid (by unfold txS txE bigB; rw [decide_eq_false h]; exact ⟨rfl, rfl⟩)
    have hs' : s.size ≤ 65535 := by omega
    have HK : Hid (2 + s.size ≤ 281474976710656) := Lib.hid (by omega)
    have HL : Hid (([] : List UInt8).length + 2 + s.size < 140737488355328) := Lib.hid (by simp; omega)
    have HE : Hid ((2 : Int) + (s.size : Int) = ((2 + s.size : Nat) : Int)) := Lib.hid (by omega)
    go_enter Try.func18, Try.ntmps18
    go_wp2_with (first
      | (go_at_call 27; (with_reducible refine (grow_int w w (Below.refl _ _) _ rfl _ _ HE.out HK.out).mono ?_); rintro e w1 ⟨rfl, p1⟩)
      | (go_at_call 28; (with_reducible refine (layText_at w _ _ _ _ s p1 HL.out hs').mono ?_); rintro e w2 ⟨rfl, p2⟩)
      | (go_at_call 23; (with_reducible refine (string_at w _ _ _ _ p2).mono ?_); rintro e w3 ⟨rfl, p3⟩)
      | fail)
    go_ret2
    exact ⟨ret_se HT.out.1 HT.out.2, p3⟩
end Go.Proofs.Ytamhmbmbcgjbmaa.Pack
