/-
  The contracts of package sat that hours calls, on the words of all seats.
-/
import Derived.Test.YtgpgpgechilbkaaDoorBase
import Derived.Test.YtgpgpgechilbkaaDoorSatMath
namespace Go.Proofs.YtgpgpgechilbkaaDoor.Sat
open Go.RowKit
open Base
set_option linter.unusedVariables false

theorem ret_pair {a b : Int} {c d : Bool} (h : a = b) (h' : c = d) : Ending.returned (.tuple #[.int .i64 a, .bool c]) = .returned (.tuple #[.int .i64 b, .bool d]) := by rw [h, h']
abbrev iV : Int → Value := Value.int .i64

set_option maxHeartbeats 400000 in
theorem within_any (n m : Int) (w : World) :
    Calls Tryd.prog 19 #[.int .i64 n, .int .i64 m] w fun e w' => e = .returned (.int .i64 (cl n m)) ∧ w = w' := by
  by_cases h0 : n < 0
  · have hc := Lib.hid (cl_neg n m h0)
    go_enter Tryd.func19, Tryd.ntmps19
    go_wp2
    go_ret
    exact ⟨ret_int hc.out.symm, rfl⟩
  · by_cases h1 : m < n
    · have hc : Hid (cl n m = m) := Lib.hid (by unfold cl; rw [if_neg h0, if_pos h1])
      go_enter Tryd.func19, Tryd.ntmps19
      go_wp2
      go_ret
      exact ⟨ret_int hc.out.symm, rfl⟩
    · have hc : Hid (cl n m = n) := Lib.hid (by unfold cl; rw [if_neg h0, if_neg h1])
      go_enter Tryd.func19, Tryd.ntmps19
      go_wp2
      go_ret
      exact ⟨ret_int hc.out.symm, rfl⟩

set_option maxHeartbeats 400000 in
theorem together_cells (m : Int) (hm : 0 ≤ m) (hm2 : m ≤ 1000000000000) (b off cap : Nat) (zs : List Int) (w : World) (hl : zs.length ≤ 9223372036854775807)
    (hc : ∀ j (h : j < zs.length), w.cell? ⟨b, off + j, none⟩ = some (.int .i64 zs[j])) :
    Calls Tryd.prog 27 #[.int .i64 m, .slice (some ⟨b, off, none⟩) zs.length cap] w
      fun e w' => e = .returned (.tuple #[.int .i64 (add m zs), .bool (over m zs)]) ∧ w = w' := by
  have HC := Lib.hid hc
  clear hc
  go_enter Tryd.func27, Tryd.ntmps27
  go_wp2
  go_loop [6, 11] (fun s i => ∃ k : Nat, k ≤ zs.length ∧ i = .int .i64 k ∧ s = .int .i64 (tot m (zs.take k)) ∧ tot m (zs.take k) ≤ m) (fun _ i => zs.length - (intOf i).toNat)
  case atStart => exact ⟨0, Nat.zero_le _, rfl, by simp [tot], by simpa [tot] using hm⟩
  case round =>
    obtain ⟨k, hk, rfl, rfl, hb⟩ := hrel
    have h0 := tot_nonneg m hm (zs.take k)
    by_cases hlt : k < zs.length
    · have hcell := HC.out k hlt
      have hz := cl_bd zs[k] m hm
      have HS := Lib.hid (tot_take_succ m zs k hlt)
      have hT := tot_take_le m hm zs (k + 1)
      by_cases hov : m - tot m (zs.take k) < cl zs[k] m
      · have H1 : Hid (m = add m zs) := Lib.hid (by unfold add; rw [if_pos]; have := HS.out; omega)
        have H2 : Hid (true = over m zs) := Lib.hid (by unfold over; have := HS.out; symm; rw [decide_eq_true_eq]; omega)
        clear hT
        go_wp2_with (go_at_call 19; refine (within_any _ _ _).mono ?_; rintro e w' ⟨rfl, rfl⟩)
        go_ret2
        exact ⟨ret_pair H1.out H2.out, rfl⟩
      · have hT2 : tot m (zs.take k) + cl zs[k] m ≤ 1000000000000 := by omega
        clear hT
        go_wp2_with (go_at_call 19; refine (within_any _ _ _).mono ?_; rintro e w' ⟨rfl, rfl⟩)
        go_round
        case rel => exact ⟨k + 1, by omega, by go_num, by rw [HS.out], by rw [HS.out]; omega⟩
        case measure => simp [intOf]; omega
    · have hfull : Hid (tot m (zs.take k) = tot m zs) := Lib.hid (by rw [List.take_of_length_le (by omega)])
      go_wp2
      go_ret2
      refine ⟨ret_pair ?_ ?_, rfl⟩
      · unfold add; rw [if_neg]
        · exact hfull.out
        · have := hfull.out; omega
      · unfold over; symm; rw [decide_eq_false_iff_not]; have := hfull.out; omega

set_option maxHeartbeats 400000 in
theorem together_empty (m : Int) (hm : 0 ≤ m) (a : Option Addr) (cap : Nat) (w : World) :
    Calls Tryd.prog 27 #[.int .i64 m, .slice a 0 cap] w
      fun e w' => e = .returned (.tuple #[.int .i64 0, .bool false]) ∧ w = w' := by
  go_enter Tryd.func27, Tryd.ntmps27
  go_wp2
  refine wp_loop_rounds 1 ?_
  rw [rounds_succ]
  go_wp2
  go_ret2
  exact ⟨rfl, rfl⟩

theorem together_any (m : Int) (hm : 0 ≤ m) (hm2 : m ≤ 1000000000000) (a : Option Addr) (len cap : Nat) (zs : List Int) (w : World) (hlen : zs.length = len) (hl : len ≤ 9223372036854775807) (hr : Reads iV w a zs) :
    Calls Tryd.prog 27 #[.int .i64 m, .slice a len cap] w
      fun e w' => e = .returned (.tuple #[.int .i64 (add m zs), .bool (over m zs)]) ∧ w = w' := by
  subst hlen
  rcases hr with rfl | ⟨b, off, rfl, hc⟩
  · refine (together_empty m hm a cap w).mono fun e w' ⟨he, hw⟩ => ⟨?_, hw⟩
    rw [he]
    refine ret_pair ?_ ?_
    · unfold add; rw [if_neg] <;> simp [tot]; omega
    · unfold over; simp [tot]; omega
  · exact together_cells m hm hm2 b off cap zs w hl hc

set_option maxHeartbeats 400000 in
theorem time_any (n : Int) (w : World) :
    Calls Tryd.prog 9 #[.int .i64 n] w fun e w' => e = .returned (.int .i64 (cl n 1000000)) ∧ w = w' := by
  go_enter Tryd.func9, Tryd.ntmps9
  go_wp2_with (go_at_call 19; refine (within_any _ _ _).mono ?_; rintro e w' ⟨rfl, rfl⟩)
  go_ret
  exact ⟨rfl, rfl⟩

set_option maxHeartbeats 400000 in
theorem usage_any (n : Int) (w : World) :
    Calls Tryd.prog 28 #[.int .i64 n] w fun e w' => e = .returned (.int .i64 (cl n 1000000000000)) ∧ w = w' := by
  go_enter Tryd.func28, Tryd.ntmps28
  go_wp2_with (go_at_call 19; refine (within_any _ _ _).mono ?_; rintro e w' ⟨rfl, rfl⟩)
  go_ret
  exact ⟨rfl, rfl⟩

set_option maxHeartbeats 400000 in
theorem plus_any (a : Option Addr) (len cap : Nat) (zs : List Int) (w : World) (hlen : zs.length = len) (hl : len ≤ 9223372036854775807) (hr : Reads iV w a zs) :
    Calls Tryd.prog 21 #[.slice a len cap] w fun e w' => e = .returned (.int .i64 (add 1000000000000 zs)) ∧ w = w' := by
  have H := Lib.hid hlen
  have Hl := Lib.hid hl
  clear hlen hl
  go_enter Tryd.func21, Tryd.ntmps21
  go_wp2_with (go_at_call 27; refine (together_any 1000000000000 (by omega) (by omega) a len cap zs _ H.out Hl.out hr).mono ?_; rintro e w' ⟨rfl, rfl⟩)
  go_ret
  exact ⟨rfl, rfl⟩

set_option maxHeartbeats 400000 in
theorem times_any (a b : Int) (w : World) :
    Calls Tryd.prog 22 #[.int .i64 a, .int .i64 b] w fun e w' => e = .returned (.int .i64 (mulc 1000000000000 a b)) ∧ w = w' := by
  have h1 := cl_bd a 1000000000000 (by omega)
  have h2 := cl_bd b 1000000000000 (by omega)
  have h3 : 0 ≤ cl a 1000000000000 * cl b 1000000000000 := Int.mul_nonneg h1.1 h2.1
  by_cases hb : 0 < cl b 1000000000000
  · have hq := quo_gt 1000000000000 (cl a 1000000000000) (cl b 1000000000000) hb
    by_cases hov : 1000000000000 / cl b 1000000000000 < cl a 1000000000000
    · have H : Hid (1000000000000 = mulc 1000000000000 a b) := Lib.hid (by unfold mulc; rw [if_pos (hq.1 hov)])
      clear hq
      go_enter Tryd.func22, Tryd.ntmps22
      go_wp2_with (go_at_call 28; refine (usage_any _ _).mono ?_; rintro e w' ⟨rfl, rfl⟩)
      go_ret
      exact ⟨ret_int H.out, rfl⟩
    · have hle : cl a 1000000000000 * cl b 1000000000000 ≤ 1000000000000 := by
        have : ¬ (1000000000000 < cl a 1000000000000 * cl b 1000000000000) := fun h => hov (hq.2 h)
        omega
      have H : Hid (cl a 1000000000000 * cl b 1000000000000 = mulc 1000000000000 a b) := Lib.hid (by unfold mulc; rw [if_neg (by omega)])
      clear hq
      go_enter Tryd.func22, Tryd.ntmps22
      go_wp2_with (go_at_call 28; refine (usage_any _ _).mono ?_; rintro e w' ⟨rfl, rfl⟩)
      go_ret
      exact ⟨ret_int H.out, rfl⟩
  · have hz : cl b 1000000000000 = 0 := by omega
    have hle : cl a 1000000000000 * cl b 1000000000000 ≤ 1000000000000 := by rw [hz]; simp
    have H : Hid (cl a 1000000000000 * cl b 1000000000000 = mulc 1000000000000 a b) := Lib.hid (by unfold mulc; rw [if_neg (by omega)])
    clear hz
    go_enter Tryd.func22, Tryd.ntmps22
    go_wp2_with (go_at_call 28; refine (usage_any _ _).mono ?_; rintro e w' ⟨rfl, rfl⟩)
    go_ret
    exact ⟨ret_int H.out, rfl⟩

end Go.Proofs.YtgpgpgechilbkaaDoor.Sat
