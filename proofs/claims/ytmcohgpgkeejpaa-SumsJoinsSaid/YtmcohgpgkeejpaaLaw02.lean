/-
  The walks of the statements of layer 2 that ask for the document's answer: 'awake', SumsBytes, SumsJoins, SumsParts.
-/
import Derived.Test.YtmcohgpgkeejpaaRef02
namespace Go.Proofs.Ytmcohgpgkeejpaa.Sums
open Go.RowKit
open Base
set_option linter.unusedVariables false

abbrev wWikipedia : ByteArray := ⟨#[87, 105, 107, 105, 112, 101, 100, 105, 97]⟩
abbrev wWiki : ByteArray := ⟨#[87, 105, 107, 105]⟩
abbrev wPedia : ByteArray := ⟨#[112, 101, 100, 105, 97]⟩

set_option maxRecDepth 100000 in
set_option maxHeartbeats 1000000 in
theorem awake_any (w : World) :
    Calls Try.prog 8 #[] w fun e w' => e = .returned (.bool true) ∧ Below w.heap.size w w' := by
  have z1 : sum (cat []) = 1 := by decide
  have z2 : sum (cat [wWikipedia]) = 300286872 := by decide +kernel
  have z3 : sum (cat [wWiki, wPedia]) = 300286872 := by decide +kernel
  have z4 : more 1 wWikipedia.data.toList = 300286872 := by decide +kernel
  have z5 : join (sum (cat [wWiki])) (sum (cat [wPedia])) 5 = 300286872 := by decide +kernel
  have s1 : ∀ s ∈ [wWikipedia], s.size ≤ maxLen := by decide
  have s2 : ∀ s ∈ [wWiki, wPedia], s.size ≤ maxLen := by decide
  have s3 : ∀ s ∈ [wWiki], s.size ≤ maxLen := by decide
  have s4 : ∀ s ∈ [wPedia], s.size ≤ maxLen := by decide
  have b1 := sum_bd (cat [wWiki])
  have b2 := sum_bd (cat [wPedia])
  have S1 := Lib.hid s1
  have S2 := Lib.hid s2
  have S3 := Lib.hid s3
  have S4 := Lib.hid s4
  clear s1 s2 s3 s4
  go_enter Try.func8, Try.ntmps8
  go_wp2_with (first
    | (go_at_call 9; (with_reducible refine (sum_any none 0 0 [] _ rfl (Nat.le_of_ble_eq_true rfl) Reads.nil_ (by simp)).mono ?_); rintro e w1 ⟨rfl, p1⟩)
    | (go_at_call 9; (with_reducible refine (sum_any _ 1 1 [wWikipedia] _ rfl (Nat.le_of_ble_eq_true rfl) (reads_one (by simp) _ _) S1.out).mono ?_); rintro e w2 ⟨rfl, p2⟩)
    | (go_at_call 9; (with_reducible refine (sum_any _ 2 2 [wWiki, wPedia] _ rfl (Nat.le_of_ble_eq_true rfl) (reads_two (by simp) _ _ _) S2.out).mono ?_); rintro e w3 ⟨rfl, p3⟩)
    | (go_at_call 11; (with_reducible refine (more_any 1 (Int.le_of_lt (by decide)) (by decide) wWikipedia (by decide) _).mono ?_); rintro e w4 ⟨rfl, p4⟩)
    | (go_at_call 9; (with_reducible refine (sum_any _ 1 1 [wWiki] _ rfl (Nat.le_of_ble_eq_true rfl) (reads_one (by simp) _ _) S3.out).mono ?_); rintro e w5 ⟨rfl, p5⟩)
    | (go_at_call 9; (with_reducible refine (sum_any _ 1 1 [wPedia] _ rfl (Nat.le_of_ble_eq_true rfl) (reads_one (by simp) _ _) S4.out).mono ?_); rintro e w6 ⟨rfl, p6⟩)
    | (go_at_call 13; (with_reducible refine (join_any _ _ 5 b1.1 b1.2 b2.1 b2.2 _).mono ?_); rintro e w7 ⟨rfl, p7⟩))
  go_ret
  exact ⟨rfl, p7.from (p6.from ((below_one _).from (p5.from ((below_one _).from (p4.from (p3.from ((below_one _).from (p2.from ((below_one _).from p1)))))))))⟩

set_option maxHeartbeats 400000 in
theorem sumsJoins_any (a b n : Int) (a0 : 0 ≤ a) (a1 : a ≤ 4294967295) (b0 : 0 ≤ b) (b1 : b ≤ 4294967295) (w : World) :
    Calls Try.prog 4 #[.int .u32 a, .int .u32 b, .int .i64 n] w fun e w' => e = .returned (.bool true) ∧ Below w.heap.size w w' := by
  go_enter Try.func4, Try.ntmps4
  go_wp2_with (first
    | (go_at_call 13; (with_reducible refine (join_any _ _ _ a0 a1 b0 b1 _).mono ?_); rintro e w1 ⟨rfl, p1⟩)
    | (go_at_call 14; (with_reducible refine (rjoin_any _ _ _ a0 a1 b0 b1 _).mono ?_); rintro e w2 ⟨rfl, rfl⟩)
    | (go_at_call 8; (with_reducible refine (awake_any _).mono ?_); rintro e w3 ⟨rfl, p3⟩))
  go_ret
  exact ⟨rfl, p3.from p1⟩

set_option maxHeartbeats 800000 in
theorem sumsBytes_any (x : Option Addr) (len cap : Nat) (ss : List ByteArray) (a b : Int) (a0 : 0 ≤ a) (a1 : a ≤ 4294967295) (b0 : 0 ≤ b) (b1 : b ≤ 4294967295) (w : World)
    (hlen : ss.length = len) (hl : len ≤ 9223372036854775807) (hr : Reads .string w x ss) (hz : ∀ s ∈ ss, s.size ≤ maxLen) :
    Calls Try.prog 3 #[.slice x len cap, .int .u32 a, .int .u32 b] w fun e w' => e = .returned (.bool true) ∧ Below w.heap.size w w' := by
  subst hlen
  have HR := Lib.hid hr
  have HZ := Lib.hid hz
  clear hr hz
  by_cases hL : longB ss = true
  · go_enter Try.func3, Try.ntmps3
    go_wp2_with (first
      | (go_at_call 7; (with_reducible refine (long_any _ _ _ ss _ rfl hl HR.out HZ.out).mono ?_); rintro e w1 ⟨rfl, rfl⟩)
      | (go_at_call 8; (with_reducible refine (awake_any _).mono ?_); rintro e w3 ⟨rfl, p3⟩))
    go_ret
    exact ⟨rfl, p3⟩
  · have hL : longB ss = false := by simpa using hL
    by_cases hp : 0 < ss.length
    · obtain ⟨g, off, rfl, hc0⟩ := HR.out.at_ hp
      have hlast : ss.length - 1 < ss.length := by omega
      obtain ⟨g', off', hgg, hc1⟩ := HR.out.at_ hlast
      obtain ⟨rfl, rfl⟩ : g = g' ∧ off = off' := by simpa using hgg
      clear hgg
      rw [Nat.add_zero] at hc0
      have z0 := HZ.out ss[0] (List.getElem_mem hp)
      have z1 := HZ.out ss[ss.length - 1] (List.getElem_mem hlast)
      go_enter Try.func3, Try.ntmps3
      go_wp2_with (first
        | (go_at_call 7; (with_reducible refine (long_any _ _ _ ss _ rfl hl HR.out HZ.out).mono ?_); rintro e w1 ⟨rfl, rfl⟩)
        | (go_at_call 9; (with_reducible refine (sum_any _ _ _ ss _ rfl hl HR.out HZ.out).mono ?_); rintro e w2 ⟨rfl, p2⟩; have hr2 := HR.out.below p2)
        | (go_at_call 10; (with_reducible refine (rsum_any _ _ _ ss _ rfl hl hr2 HZ.out).mono ?_); rintro e w3 ⟨rfl, rfl⟩)
        | (go_at_call 11; (with_reducible refine (more_any _ a0 a1 _ z0 _).mono ?_); rintro e w4 ⟨rfl, p4⟩)
        | (go_at_call 12; (with_reducible refine (rmore_any _ a0 a1 _ z0 _).mono ?_); rintro e w5 ⟨rfl, rfl⟩)
        | (go_at_call 13; (with_reducible refine (join_any _ _ _ a0 a1 b0 b1 _).mono ?_); rintro e w6 ⟨rfl, p6⟩)
        | (go_at_call 14; (with_reducible refine (rjoin_any _ _ _ a0 a1 b0 b1 _).mono ?_); rintro e w7 ⟨rfl, rfl⟩)
        | (go_at_call 8; (with_reducible refine (awake_any _).mono ?_); rintro e w8 ⟨rfl, p8⟩))
      go_ret
      exact ⟨rfl, p8.from (p6.from (p4.from p2))⟩
    · have hE : ss = [] := List.eq_nil_of_length_eq_zero (by omega)
      subst hE
      go_enter Try.func3, Try.ntmps3
      go_wp2_with (first
        | (go_at_call 7; (with_reducible refine (long_any _ 0 _ [] _ rfl (Nat.zero_le _) HR.out HZ.out).mono ?_); rintro e w1 ⟨rfl, rfl⟩)
        | (go_at_call 9; (with_reducible refine (sum_any _ 0 _ [] _ rfl (Nat.zero_le _) HR.out HZ.out).mono ?_); rintro e w2 ⟨rfl, p2⟩; have hr2 := HR.out.below p2)
        | (go_at_call 10; (with_reducible refine (rsum_any _ 0 _ [] _ rfl (Nat.zero_le _) hr2 HZ.out).mono ?_); rintro e w3 ⟨rfl, rfl⟩)
        | (go_at_call 11; (with_reducible refine (more_any _ a0 a1 _ (Nat.le_of_ble_eq_true rfl) _).mono ?_); rintro e w4 ⟨rfl, p4⟩)
        | (go_at_call 12; (with_reducible refine (rmore_any _ a0 a1 _ (Nat.le_of_ble_eq_true rfl) _).mono ?_); rintro e w5 ⟨rfl, rfl⟩)
        | (go_at_call 13; (with_reducible refine (join_any _ _ _ a0 a1 b0 b1 _).mono ?_); rintro e w6 ⟨rfl, p6⟩)
        | (go_at_call 14; (with_reducible refine (rjoin_any _ _ _ a0 a1 b0 b1 _).mono ?_); rintro e w7 ⟨rfl, rfl⟩)
        | (go_at_call 8; (with_reducible refine (awake_any _).mono ?_); rintro e w8 ⟨rfl, p8⟩))
      go_ret
      exact ⟨rfl, p8.from (p6.from (p4.from p2))⟩

end Go.Proofs.Ytmcohgpgkeejpaa.Sums
