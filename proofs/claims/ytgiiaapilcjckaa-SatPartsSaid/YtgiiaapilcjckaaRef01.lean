/-
  The contracts of the document's answer for layer 1: each is what the plain mathematics says.
-/
import Derived.Test.YtgiiaapilcjckaaRows
import Derived.Test.YtgiiaapilcjckaaSatWalks
namespace Go.Proofs.Ytgiiaapilcjckaa.Sat
open Go.RowKit
set_option linter.unusedVariables false

/-- Held from above. -/
def top (m t : Int) : Int := if t > m then m else t

theorem dbl_odd (x y out : Int) (hx : 0 ≤ x) (hy : 0 < y) (ho : 0 ≤ out) (hod : y % 2 = 1) :
    top 1000000000000 (cl (out + x) 1000000000000 + cl (x + x) 1000000000000 * (y / 2)) = top 1000000000000 (out + x * y) := by
  obtain ⟨q, hq⟩ : ∃ q, q = y / 2 := ⟨_, rfl⟩
  have hy2 : y = 2 * q + 1 := by omega
  have hq0 : 0 ≤ q := by omega
  have e : x * y = 2 * (x * q) + x := by rw [hy2, Int.mul_add, Int.mul_one, ← Int.mul_assoc, Int.mul_comm x 2, Int.mul_assoc]
  have hp : 0 ≤ x * q := Int.mul_nonneg hx hq0
  rw [← hq, e]
  by_cases h1 : out + x > 1000000000000
  · rw [cl_big (out + x) _ (by omega) h1]
    have h2 := cl_bd (x + x) 1000000000000 (by omega)
    have h3 : 0 ≤ cl (x + x) 1000000000000 * q := Int.mul_nonneg h2.1 hq0
    unfold top; split <;> split <;> omega
  · rw [cl_id (out + x) _ (by omega) (by omega)]
    by_cases h4 : x + x > 1000000000000
    · rw [cl_big (x + x) _ (by omega) h4]
      by_cases h5 : q = 0
      · subst h5; simp
      · have h6 : x * 1 ≤ x * q := Int.mul_le_mul_of_nonneg_left (by omega) hx
        unfold top; split <;> split <;> omega
    · rw [cl_id (x + x) _ (by omega) (by omega)]
      have : (x + x) * q = 2 * (x * q) := by rw [Int.add_mul]; omega
      rw [this]
      unfold top; split <;> split <;> omega

theorem dbl_even (x y out : Int) (hx : 0 ≤ x) (hy : 0 < y) (ho : 0 ≤ out) (hev : ¬ y % 2 = 1) :
    top 1000000000000 (out + cl (x + x) 1000000000000 * (y / 2)) = top 1000000000000 (out + x * y) := by
  obtain ⟨q, hq⟩ : ∃ q, q = y / 2 := ⟨_, rfl⟩
  have hy2 : y = 2 * q := by omega
  have hq0 : 0 < q := by omega
  have e : x * y = 2 * (x * q) := by rw [hy2, ← Int.mul_assoc, Int.mul_comm x 2, Int.mul_assoc]
  have hp : 0 ≤ x * q := Int.mul_nonneg hx (by omega)
  rw [← hq, e]
  by_cases h4 : x + x > 1000000000000
  · rw [cl_big (x + x) _ (by omega) h4]
    have h6 : x * 1 ≤ x * q := Int.mul_le_mul_of_nonneg_left (by omega) hx
    unfold top; split <;> split <;> omega
  · rw [cl_id (x + x) _ (by omega) (by omega)]
    have : (x + x) * q = 2 * (x * q) := by rw [Int.add_mul]; omega
    rw [this]

set_option maxHeartbeats 400000 in
theorem held_any (n m : Int) (w : World) :
    Calls Try.prog 25 #[.int .i64 n, .int .i64 m] w fun e w' => e = .returned (.int .i64 (cl n m)) ∧ w = w' := by
  by_cases h0 : n < 0
  · have hc := Lib.hid (cl_neg n m h0)
    go_enter Try.func25, Try.ntmps25
    go_wp2
    go_ret
    exact ⟨ret_int hc.out.symm, rfl⟩
  · by_cases h1 : m < n
    · have hc : Hid (cl n m = m) := Lib.hid (by unfold cl; rw [if_neg h0, if_pos h1])
      go_enter Try.func25, Try.ntmps25
      go_wp2
      go_ret
      exact ⟨ret_int hc.out.symm, rfl⟩
    · have hc : Hid (cl n m = n) := Lib.hid (by unfold cl; rw [if_neg h0, if_neg h1])
      go_enter Try.func25, Try.ntmps25
      go_wp2
      go_ret
      exact ⟨ret_int hc.out.symm, rfl⟩

set_option maxHeartbeats 400000 in
theorem rtime_any (n : Int) (w : World) :
    Calls Try.prog 15 #[.int .i64 n] w fun e w' => e = .returned (.int .i64 (cl n 1000000)) ∧ w = w' := by
  go_enter Try.func15, Try.ntmps15
  go_wp2_with (go_at_call 25; refine (held_any _ _ _).mono ?_; rintro e w' ⟨rfl, rfl⟩)
  go_ret
  exact ⟨rfl, rfl⟩

set_option maxHeartbeats 400000 in
theorem rusage_any (n : Int) (w : World) :
    Calls Try.prog 23 #[.int .i64 n] w fun e w' => e = .returned (.int .i64 (cl n 1000000000000)) ∧ w = w' := by
  go_enter Try.func23, Try.ntmps23
  go_wp2_with (go_at_call 25; refine (held_any _ _ _).mono ?_; rintro e w' ⟨rfl, rfl⟩)
  go_ret
  exact ⟨rfl, rfl⟩

set_option maxHeartbeats 400000 in
theorem rsub_any (a b : Int) (w : World) :
    Calls Try.prog 13 #[.int .i64 a, .int .i64 b] w fun e w' => e = .returned (.int .i64 (sub 1000000 a b)) ∧ w = w' := by
  have h1 := cl_bd a 1000000 (by omega)
  have h2 := cl_bd b 1000000 (by omega)
  go_enter Try.func13, Try.ntmps13
  go_wp2_with (first | (go_at_call 15; refine (rtime_any _ _).mono ?_; rintro e w' ⟨rfl, rfl⟩) | (go_at_call 25; refine (held_any _ _ _).mono ?_; rintro e w' ⟨rfl, rfl⟩))
  go_ret
  exact ⟨rfl, rfl⟩

theorem half_eq (u : Int) (h : 0 ≤ u) : (u - u % 2) / 2 = u / 2 := by omega

set_option maxHeartbeats 400000 in
theorem rhalf_any (n : Int) (w : World) :
    Calls Try.prog 21 #[.int .i64 n] w fun e w' => e = .returned (.int .i64 (cl n 1000000000000 / 2)) ∧ w = w' := by
  have h1 := cl_bd n 1000000000000 (by omega)
  have H := Lib.hid (half_eq _ h1.1)
  go_enter Try.func21, Try.ntmps21
  go_wp2_with (go_at_call 23; refine (rusage_any _ _).mono ?_; rintro e w' ⟨rfl, rfl⟩)
  go_ret
  exact ⟨ret_int H.out, rfl⟩

set_option maxHeartbeats 400000 in
theorem radd_any (a : Option Addr) (len cap : Nat) (zs : List Int) (w : World) (hlen : zs.length = len) (hl : len ≤ 9223372036854775807) (hr : Reads w a zs) :
    Calls Try.prog 9 #[.slice a len cap] w fun e w' => e = .returned (.int .i64 (add 1000000 zs)) ∧ w = w' := by
  subst hlen
  have HR := Lib.hid hr
  clear hr
  go_enter Try.func9, Try.ntmps9
  go_wp2
  go_loop [3, 4] (fun s i => ∃ k : Nat, k ≤ zs.length ∧ i = .int .i64 k ∧ s = .int .i64 (add 1000000 (zs.take k))) (fun _ i => zs.length - (intOf i).toNat)
  case atStart => exact ⟨0, Nat.zero_le _, rfl, by simp [add, tot]⟩
  case round =>
    obtain ⟨k, hk, rfl, rfl⟩ := hrel
    have h0 := add_bd 1000000 (by omega) (zs.take k)
    by_cases hlt : k < zs.length
    · obtain ⟨b, off, rfl, hc⟩ : ∃ b off, a = some ⟨b, off, none⟩ ∧ ∀ j (h : j < zs.length), w.cell? ⟨b, off + j, none⟩ = some (.int .i64 zs[j]) := by
        rcases HR.out with h | h
        · subst h; simp at hlt
        · exact h
      have hcell := hc k hlt
      clear hc
      have hz := cl_bd zs[k] 1000000 (by omega)
      have HS := Lib.hid (add_take_succ 1000000 (by omega) zs k hlt)
      go_wp2_with (first | (go_at_call 15; refine (rtime_any _ _).mono ?_; rintro e w' ⟨rfl, rfl⟩) | (go_at_call 25; refine (held_any _ _ _).mono ?_; rintro e w' ⟨rfl, rfl⟩))
      go_round
      case rel => exact ⟨k + 1, by omega, by go_num, by rw [HS.out]⟩
      case measure => simp [intOf]; omega
    · have hfull : Hid (add 1000000 (zs.take k) = add 1000000 zs) := Lib.hid (by rw [List.take_of_length_le (by omega)])
      go_wp2
      go_ret
      exact ⟨ret_int hfull.out, rfl⟩

set_option maxHeartbeats 400000 in
theorem rplus_any (a : Option Addr) (len cap : Nat) (zs : List Int) (w : World) (hlen : zs.length = len) (hl : len ≤ 9223372036854775807) (hr : Reads w a zs) :
    Calls Try.prog 17 #[.slice a len cap] w fun e w' => e = .returned (.int .i64 (add 1000000000000 zs)) ∧ w = w' := by
  subst hlen
  have HR := Lib.hid hr
  clear hr
  go_enter Try.func17, Try.ntmps17
  go_wp2
  go_loop [3, 4] (fun s i => ∃ k : Nat, k ≤ zs.length ∧ i = .int .i64 k ∧ s = .int .i64 (add 1000000000000 (zs.take k))) (fun _ i => zs.length - (intOf i).toNat)
  case atStart => exact ⟨0, Nat.zero_le _, rfl, by simp [add, tot]⟩
  case round =>
    obtain ⟨k, hk, rfl, rfl⟩ := hrel
    have h0 := add_bd 1000000000000 (by omega) (zs.take k)
    by_cases hlt : k < zs.length
    · obtain ⟨b, off, rfl, hc⟩ : ∃ b off, a = some ⟨b, off, none⟩ ∧ ∀ j (h : j < zs.length), w.cell? ⟨b, off + j, none⟩ = some (.int .i64 zs[j]) := by
        rcases HR.out with h | h
        · subst h; simp at hlt
        · exact h
      have hcell := hc k hlt
      clear hc
      have hz := cl_bd zs[k] 1000000000000 (by omega)
      have HS := Lib.hid (add_take_succ 1000000000000 (by omega) zs k hlt)
      go_wp2_with (first | (go_at_call 23; refine (rusage_any _ _).mono ?_; rintro e w' ⟨rfl, rfl⟩) | (go_at_call 25; refine (held_any _ _ _).mono ?_; rintro e w' ⟨rfl, rfl⟩))
      go_round
      case rel => exact ⟨k + 1, by omega, by go_num, by rw [HS.out]⟩
      case measure => simp [intOf]; omega
    · have hfull : Hid (add 1000000000000 (zs.take k) = add 1000000000000 zs) := Lib.hid (by rw [List.take_of_length_le (by omega)])
      go_wp2
      go_ret
      exact ⟨ret_int hfull.out, rfl⟩

set_option maxHeartbeats 400000 in
theorem rover_any (a : Option Addr) (len cap : Nat) (zs : List Int) (w : World) (hlen : zs.length = len) (hl : len ≤ 9223372036854775807) (hr : Reads w a zs) :
    Calls Try.prog 11 #[.slice a len cap] w fun e w' => e = .returned (.bool (over 1000000 zs)) ∧ w = w' := by
  subst hlen
  have HR := Lib.hid hr
  clear hr
  go_enter Try.func11, Try.ntmps11
  go_wp2
  go_loop [3, 4] (fun s i => ∃ k : Nat, k ≤ zs.length ∧ i = .int .i64 k ∧ s = .int .i64 (tot 1000000 (zs.take k)) ∧ tot 1000000 (zs.take k) ≤ 1000000) (fun _ i => zs.length - (intOf i).toNat)
  case atStart => exact ⟨0, Nat.zero_le _, rfl, by simp [tot], by simp [tot]⟩
  case round =>
    obtain ⟨k, hk, rfl, rfl, hb⟩ := hrel
    have h0 := tot_nonneg 1000000 (by omega) (zs.take k)
    by_cases hlt : k < zs.length
    · obtain ⟨b, off, rfl, hc⟩ : ∃ b off, a = some ⟨b, off, none⟩ ∧ ∀ j (h : j < zs.length), w.cell? ⟨b, off + j, none⟩ = some (.int .i64 zs[j]) := by
        rcases HR.out with h | h
        · subst h; simp at hlt
        · exact h
      have hcell := hc k hlt
      clear hc
      have hz := cl_bd zs[k] 1000000 (by omega)
      have HS := Lib.hid (tot_take_succ 1000000 zs k hlt)
      have HT := Lib.hid (tot_take_le 1000000 (by omega) zs (k + 1))
      by_cases hov : 1000000 < tot 1000000 (zs.take k) + cl zs[k] 1000000
      · have H2 : Hid (true = over 1000000 zs) := Lib.hid (by unfold over; have := HS.out; have := HT.out; symm; rw [decide_eq_true_eq]; omega)
        go_wp2_with (go_at_call 15; refine (rtime_any _ _).mono ?_; rintro e w' ⟨rfl, rfl⟩)
        go_ret
        exact ⟨ret_bool H2.out, rfl⟩
      · go_wp2_with (go_at_call 15; refine (rtime_any _ _).mono ?_; rintro e w' ⟨rfl, rfl⟩)
        go_round
        case rel => exact ⟨k + 1, by omega, by go_num, by rw [HS.out], by rw [HS.out]; omega⟩
        case measure => simp [intOf]; omega
    · have hfull : Hid (tot 1000000 (zs.take k) = tot 1000000 zs) := Lib.hid (by rw [List.take_of_length_le (by omega)])
      have H2 : Hid (false = over 1000000 zs) := Lib.hid (by unfold over; have := hfull.out; symm; rw [decide_eq_false_iff_not]; omega)
      go_wp2
      go_ret
      exact ⟨ret_bool H2.out, rfl⟩

set_option maxHeartbeats 400000 in
theorem rtimes_any (a b : Int) (w : World) :
    Calls Try.prog 19 #[.int .i64 a, .int .i64 b] w fun e w' => e = .returned (.int .i64 (mulc 1000000000000 a b)) ∧ w = w' := by
  have h1 := cl_bd a 1000000000000 (by omega)
  have h2 := cl_bd b 1000000000000 (by omega)
  go_enter Try.func19, Try.ntmps19
  go_wp2_with (go_at_call 23; refine (rusage_any _ _).mono ?_; rintro e w' ⟨rfl, rfl⟩)
  go_loop [5, 6, 7] (fun vx vy vo => ∃ x y o : Int, vx = .int .i64 x ∧ vy = .int .i64 y ∧ vo = .int .i64 o ∧ 0 ≤ x ∧ x ≤ 1000000000000 ∧ 0 ≤ y ∧ y ≤ 1000000000000 ∧ 0 ≤ o ∧ o ≤ 1000000000000 ∧ top 1000000000000 (o + x * y) = mulc 1000000000000 a b) (fun _ vy _ => (intOf vy).toNat)
  case atStart => exact ⟨_, _, 0, rfl, rfl, rfl, h1.1, h1.2, h2.1, h2.2, by omega, by omega, by unfold top mulc; rw [Int.zero_add]⟩
  case round =>
    obtain ⟨x, y, o, rfl, rfl, rfl, hx, hx2, hy, hy2, ho, ho2, hi⟩ := hrel
    have HI := Lib.hid hi
    clear hi
    by_cases hp : 0 < y
    · have g1 := cl_bd (x + x) 1000000000000 (by omega)
      by_cases hod : y % 2 = 1
      · have HO := Lib.hid (dbl_odd x y o hx hp ho hod)
        have g2 := cl_bd (o + x) 1000000000000 (by omega)
        have hod' : (y % 2 == 1) = true := by simpa using hod
        clear hod
        go_wp2_with (go_at_call 25; refine (held_any _ _ _).mono ?_; rintro e w' ⟨rfl, rfl⟩)
        go_round
        case rel => exact ⟨_, _, _, rfl, rfl, rfl, g1.1, g1.2, by omega, by omega, g2.1, g2.2, by rw [HO.out]; exact HI.out⟩
        case measure => simp [intOf]; omega
      · have HE := Lib.hid (dbl_even x y o hx hp ho hod)
        have hod' : (y % 2 == 1) = false := by simpa using hod
        clear hod
        go_wp2_with (go_at_call 25; refine (held_any _ _ _).mono ?_; rintro e w' ⟨rfl, rfl⟩)
        go_round
        case rel => exact ⟨_, _, _, rfl, rfl, rfl, g1.1, g1.2, by omega, by omega, ho, ho2, by rw [HE.out]; exact HI.out⟩
        case measure => simp [intOf]; omega
    · have hz : y = 0 := by omega
      have hend : Hid (o = mulc 1000000000000 a b) := Lib.hid (by rw [← HI.out, hz, Int.mul_zero, Int.add_zero]; unfold top; rw [if_neg (by omega)])
      clear hz
      go_wp2
      go_ret
      exact ⟨ret_int hend.out, rfl⟩

end Go.Proofs.Ytgiiaapilcjckaa.Sat
