/-
  The contracts of the document's answer for layer 2, and of the words of its statements.
-/
import Derived.Test.YtmcohgpgkeejpaaSumsWalks
namespace Go.Proofs.Ytmcohgpgkeejpaa.Sums
open Go.RowKit
open Base
set_option linter.unusedVariables false

set_option maxHeartbeats 400000 in
theorem rmore_any (n : Int) (h0 : 0 ≤ n) (h1 : n ≤ 4294967295) (s : ByteArray) (hs : s.size ≤ maxLen) (w : World) :
    Calls Try.prog 12 #[.int .u32 n, .string s] w fun e w' => e = .returned (.int .u32 (more n s.data.toList)) ∧ w = w' := by
  unfold maxLen at hs
  have g1 := low_bd n
  have g2 := high_bd n
  go_enter Try.func12, Try.ntmps12
  go_wp2
  go_loop [5, 6, 7] (fun x y i => ∃ k : Nat, k ≤ s.size ∧ i = .int .i64 k ∧ x = .int .i64 (lo (low n) (s.data.toList.take k)) ∧ y = .int .i64 (hi (low n) (high n) (s.data.toList.take k))) (fun _ _ i => s.size - (intOf i).toNat)
  case atStart =>
    refine ⟨0, Nat.zero_le _, rfl, ?_, ?_⟩
    · rw [List.take_zero, lo_nil _ g1.1 g1.2]; rfl
    · rw [List.take_zero, hi_nil _ _ g2.1 g2.2]; rfl
  case round =>
    obtain ⟨k, hk, rfl, rfl, rfl⟩ := hrel
    have hlo := lo_bd (low n) (s.data.toList.take k)
    have hhi := hi_bd (low n) (high n) (s.data.toList.take k)
    by_cases hlt : k < s.size
    · have hby := byte_bd s[k]
      have hlo2 := lo_bd (low n) (s.data.toList.take (k + 1))
      have e1 := lo_step (low n) s.data.toList k (by rw [← Lib.size_eq]; exact hlt)
      have e2 := hi_step (low n) (high n) s.data.toList k (by rw [← Lib.size_eq]; exact hlt)
      rw [byte_at s k hlt] at e1
      have E1 := Lib.hid e1
      have E2 := Lib.hid e2
      clear e1 e2
      go_wp2
      go_round
      case rel => exact ⟨k + 1, by omega, by go_num, by rw [E1.out], by rw [E2.out, E1.out]⟩
      case measure => simp [intOf]; omega
    · have HF : Hid (val (lo (low n) (s.data.toList.take k)) (hi (low n) (high n) (s.data.toList.take k)) = more n s.data.toList) := Lib.hid (by
        rw [List.take_of_length_le (by rw [← Lib.size_eq]; omega)]; rfl)
      go_wp2
      go_ret
      exact ⟨ret_int HF.out, rfl⟩

set_option maxHeartbeats 400000 in
theorem rsum_any (a : Option Addr) (len cap : Nat) (ss : List ByteArray) (w : World) (hlen : ss.length = len) (hl : len ≤ 9223372036854775807) (hr : Reads .string w a ss) (hz : ∀ s ∈ ss, s.size ≤ maxLen) :
    Calls Try.prog 10 #[.slice a len cap] w fun e w' => e = .returned (.int .u32 (sum (cat ss))) ∧ w = w' := by
  subst hlen
  have HR := Lib.hid hr
  have HZ := Lib.hid hz
  clear hr hz
  go_enter Try.func10, Try.ntmps10
  go_wp2
  go_loop [3, 4] (fun x i => ∃ k : Nat, i = .int .i64 k ∧ k ≤ ss.length ∧ x = .int .u32 (sum (cat (ss.take k)))) (fun _ i => ss.length - (intOf i).toNat)
  case atStart => exact ⟨0, rfl, Nat.zero_le _, by rw [List.take_zero]; rfl⟩
  case round =>
    obtain ⟨k, rfl, hk, rfl⟩ := hrel
    have hbd := sum_bd (cat (ss.take k))
    by_cases hlt : k < ss.length
    · obtain ⟨b, off, rfl, hc⟩ := HR.out.at_ hlt
      have hsz := HZ.out ss[k] (List.getElem_mem hlt)
      have HC := Lib.hid (cat_take_succ ss k hlt)
      go_wp2_with (go_at_call 12; (with_reducible refine (rmore_any _ hbd.1 hbd.2 _ hsz _).mono ?_); rintro e w2 ⟨rfl, rfl⟩)
      go_round
      case rel => exact ⟨k + 1, by go_num, by omega, by rw [HC.out, ← sum_cat]⟩
      case measure => simp [intOf]; omega
    · have HF : Hid (sum (cat (ss.take k)) = sum (cat ss)) := Lib.hid (by rw [List.take_of_length_le (by omega)])
      go_wp2
      go_ret
      exact ⟨ret_int HF.out, rfl⟩

set_option maxHeartbeats 800000 in
theorem rjoin_any (a b n : Int) (a0 : 0 ≤ a) (a1 : a ≤ 4294967295) (b0 : 0 ≤ b) (b1 : b ≤ 4294967295) (w : World) :
    Calls Try.prog 14 #[.int .u32 a, .int .u32 b, .int .i64 n] w fun e w' => e = .returned (.int .u32 (join a b n)) ∧ w = w' := by
  by_cases hn : n < 0
  · go_enter Try.func14, Try.ntmps14
    go_wp2
    go_ret
    refine ⟨ret_int ?_, rfl⟩
    unfold join jlow jhigh low high
    rw [if_pos hn, show a % 65536 % 65521 + b % 65536 % 65521 + 65520 = a % 65536 % 65521 + b % 65536 % 65521 + 65521 - 1 by omega]
    have : ((0 : Int) % 65521 * ((a % 65536 % 65521 + 65520) % 65521)) = 0 := by simp
    rw [this]
    unfold val
    omega
  · have hq : 0 ≤ n % 65521 * ((a % 65536 % 65521 + 65521 - 1) % 65521) ∧ n % 65521 * ((a % 65536 % 65521 + 65521 - 1) % 65521) ≤ 4292870400 := by
      have h1 : 0 ≤ n % 65521 * ((a % 65536 % 65521 + 65521 - 1) % 65521) := Int.mul_nonneg (by omega) (by omega)
      have h2 : n % 65521 * ((a % 65536 % 65521 + 65521 - 1) % 65521) ≤ n % 65521 * 65520 := Int.mul_le_mul_of_nonneg_left (by omega) (by omega)
      omega
    go_enter Try.func14, Try.ntmps14
    go_wp2
    go_ret
    refine ⟨ret_int ?_, rfl⟩
    unfold join jlow jhigh low high
    rw [if_neg (by omega), show a % 65536 % 65521 + b % 65536 % 65521 + 65520 = a % 65536 % 65521 + b % 65536 % 65521 + 65521 - 1 by omega, show a % 65536 % 65521 + 65520 = a % 65536 % 65521 + 65521 - 1 by omega]
    rfl

/-- Are texts so long? -/
def longB (ss : List ByteArray) : Bool := ss.any (fun s => decide (60000 < s.size)) || decide (50 < ss.length)

set_option maxHeartbeats 400000 in
theorem long_any (a : Option Addr) (len cap : Nat) (ss : List ByteArray) (w : World) (hlen : ss.length = len) (hl : len ≤ 9223372036854775807) (hr : Reads .string w a ss) (hz : ∀ s ∈ ss, s.size ≤ maxLen) :
    Calls Try.prog 7 #[.slice a len cap] w fun e w' => e = .returned (.bool (longB ss)) ∧ w = w' := by
  subst hlen
  have HR := Lib.hid hr
  have HZ := Lib.hid hz
  clear hr hz
  go_enter Try.func7, Try.ntmps7
  go_wp2
  go_loop [3] (fun i => ∃ k : Nat, i = .int .i64 k ∧ k ≤ ss.length ∧ (ss.take k).any (fun s => decide (60000 < s.size)) = false) (fun i => ss.length - (intOf i).toNat)
  case atStart => exact ⟨0, rfl, Nat.zero_le _, by simp⟩
  case round =>
    obtain ⟨k, rfl, hk, ha⟩ := hrel
    have HA := Lib.hid ha
    clear ha
    by_cases hlt : k < ss.length
    · obtain ⟨b, off, rfl, hc⟩ := HR.out.at_ hlt
      have hsz := HZ.out ss[k] (List.getElem_mem hlt)
      unfold maxLen at hsz
      by_cases hb : 60000 < ss[k].size
      · have HB : Hid (true = longB ss) := Lib.hid (by
          unfold longB; symm; rw [Bool.or_eq_true]; left; rw [List.any_eq_true]; exact ⟨ss[k], List.getElem_mem hlt, by simpa using hb⟩)
        go_wp2
        go_ret
        exact ⟨ret_bool HB.out, rfl⟩
      · have HN : Hid ((ss.take (k + 1)).any (fun s => decide (60000 < s.size)) = false) := Lib.hid (by
          rw [List.take_succ_eq_append_getElem hlt, List.any_append, HA.out]; simpa using hb)
        go_wp2
        go_round
        case rel => exact ⟨k + 1, by go_num, by omega, HN.out⟩
        case measure => simp [intOf]; omega
    · have HF : Hid (decide (50 < ss.length) = longB ss) := Lib.hid (by
        have := HA.out; rw [List.take_of_length_le (by omega)] at this; unfold longB; rw [this, Bool.false_or])
      go_wp2
      go_ret
      exact ⟨ret_bool (by rw [← HF.out, decide_eq_decide]; omega), rfl⟩
end Go.Proofs.Ytmcohgpgkeejpaa.Sums
