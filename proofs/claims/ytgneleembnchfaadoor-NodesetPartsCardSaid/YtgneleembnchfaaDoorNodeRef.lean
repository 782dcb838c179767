/-
  The walks of the document's own sets (musterref09): bit, Has, List, Set, All, Of, Lowest, Highest, SameInts.
-/
import Derived.Test.YtgneleembnchfaaDoorNodeSets
namespace Go.Proofs.YtgneleembnchfaaDoor.Node
open Go.RowKit
open Base
set_option linter.unusedVariables false
set_option linter.unusedSimpArgs false

theorem pow_lt64 {k : Nat} (h : k < 64) : 2 ^ k < 18446744073709551616 := by
  have : 2 ^ k < 2 ^ 64 := Nat.pow_lt_pow_right (by decide) h
  simpa using this

set_option maxRecDepth 100000 in
set_option maxHeartbeats 1000000 in
theorem rbit_any (n : Int) (h0 : 0 ≤ n) (h1 : n < 64) (w : World) :
    Calls Tryd.prog 30 #[.int .i64 n] w fun e w' => e = .returned (.int .u64 ((2 ^ n.toNat : Nat) : Int)) ∧ w = w' := by
  obtain ⟨N, rfl⟩ := Int.eq_ofNat_of_zero_le h0
  rw [Int.toNat_natCast]
  have hN : N < 64 := by omega
  clear h0 h1
  go_enter Tryd.func30, Tryd.ntmps30
  go_wp2
  go_loopw [3, 4] (fun v cv wr => ∃ k : Nat, cv = .int .i64 (k : Int) ∧ k ≤ N ∧ v = .int .u64 ((2 ^ k : Nat) : Int) ∧ w = wr) (fun _ cv _ => N - (intOf cv).toNat)
  case atStart => exact ⟨0, rfl, by omega, rfl, rfl⟩
  case round =>
    obtain ⟨k, rfl, hk, rfl, rfl⟩ := hrel
    by_cases hlt : k < N
    · obtain ⟨y, hy⟩ : ∃ y : Int, y = ((2 ^ (k + 1) : Nat) : Int) := ⟨_, rfl⟩
      obtain ⟨x, hx⟩ : ∃ x : Int, x = ((2 ^ k : Nat) : Int) := ⟨_, rfl⟩
      have q : IntKind.u64.wrap (x * 2) = y := by
        have hp := pow_lt64 (show k + 1 < 64 by omega)
        rw [Nat.pow_succ] at hp hy
        rw [IntKind.wrap_u64, hy, hx]
        generalize 2 ^ k = P at hp
        omega
      have HY := Lib.hid hy
      rw [← hx]
      clear hx hy
      go_wp2
      go_roundw
      case rel => exact ⟨k + 1, by go_num, by omega, by rw [← HY.out], trivial⟩
      case measure => simp [intOf]; omega
    · obtain rfl : k = N := by omega
      obtain ⟨x, hx⟩ : ∃ x : Int, x = ((2 ^ k : Nat) : Int) := ⟨_, rfl⟩
      have HX := Lib.hid hx
      rw [← hx]
      clear hx
      go_wp2
      go_ret
      exact ⟨ret_int HX.out, rfl⟩

set_option maxRecDepth 100000 in
set_option maxHeartbeats 1000000 in
theorem rhas_any (S : Nat) (hS : S < 18446744073709551616) (s n : Int) (hs : s = (S : Int)) (w : World) :
    Calls Tryd.prog 16 #[.int .u64 s, .int .i64 n] w fun e w' => e = .returned (.bool (hasB S n)) ∧ w = w' := by
  have HB : Hid (hasB S n = (decide (0 ≤ n ∧ n < 64) && S.testBit n.toNat)) := Lib.hid rfl
  by_cases h0 : 0 ≤ n
  · by_cases h1 : n < 64
    · have C := Lib.hid (fun w => rbit_any n h0 h1 w)
      have hp0 : 0 < 2 ^ n.toNat := Nat.two_pow_pos _
      have hp1 := pow_lt64 (show n.toNat < 64 by omega)
      obtain ⟨P, hP⟩ : ∃ P, P = 2 ^ n.toNat := ⟨_, rfl⟩
      rw [← hP] at C hp0 hp1
      obtain ⟨p, hp⟩ : ∃ p : Int, p = (P : Int) := ⟨_, rfl⟩
      rw [← hp] at C
      have hQ1 : S / P ≤ S := Nat.div_le_self _ _
      have t1 : Int.tdiv s p = ((S / P : Nat) : Int) := by rw [hs, hp]; simp
      have HR0 : hasB S n = decide (S / P % 2 = 1) := by rw [HB.out, decide_eq_true ⟨h0, h1⟩, Bool.true_and, tb_div, ← hP]
      obtain ⟨Q, hQ⟩ : ∃ Q, Q = S / P := ⟨_, rfl⟩
      rw [← hQ] at t1 hQ1 HR0
      obtain ⟨q, hq⟩ : ∃ q : Int, q = (Q : Int) := ⟨_, rfl⟩
      rw [← hq] at t1
      obtain ⟨r, hr⟩ : ∃ r : Int, r = ((Q % 2 : Nat) : Int) := ⟨_, rfl⟩
      have t3 : IntKind.u64.wrap q = q := by rw [IntKind.wrap_u64]; omega
      have t2 : Int.tmod q 2 = r := by rw [hq, hr, Int.tmod_eq_emod_of_nonneg (by omega)]; omega
      have p0 : (p == 0) = false := by rw [beq_eq_false_iff_ne]; omega
      have p1 : 0 < p := by omega
      have s0 : 0 ≤ s := by omega
      have q0 : 0 ≤ q := by omega
      have HR : Hid ((r == 1) = hasB S n) := Lib.hid (by
        rw [HR0, Bool.eq_iff_iff, beq_iff_eq, decide_eq_true_eq, hr]
        omega)
      clear hP hp hq hr hs hp0 hp1 HB HR0 hQ hQ1
      have d1 : decide (n < 0) = false := decide_eq_false (by omega)
      have d2 : decide (63 < n) = false := decide_eq_false (by omega)
      go_enter Tryd.func16, Tryd.ntmps16
      go_wp2_with (first | (go_at_call 30; (with_reducible refine (C.out _).mono ?_); rintro e w' ⟨rfl, rfl⟩) | fail)
      go_ret
      exact ⟨ret_bool HR.out, rfl⟩
    · have d1 : decide (n < 0) = false := decide_eq_false (by omega)
      have d2 : decide (63 < n) = true := decide_eq_true (by omega)
      have HR : Hid (false = hasB S n) := Lib.hid (by rw [HB.out, decide_eq_false (by omega)]; rfl)
      clear hs HB
      go_enter Tryd.func16, Tryd.ntmps16
      go_wp2
      go_ret
      exact ⟨ret_bool HR.out, rfl⟩
  · have d1 : decide (n < 0) = true := decide_eq_true (by omega)
    have HR : Hid (false = hasB S n) := Lib.hid (by rw [HB.out, decide_eq_false (by omega)]; rfl)
    clear hs HB
    go_enter Tryd.func16, Tryd.ntmps16
    go_wp2
    go_ret
    exact ⟨ret_bool HR.out, rfl⟩

set_option maxRecDepth 100000 in
set_option maxHeartbeats 2000000 in
theorem rlist_any (S : Nat) (hS : S < 18446744073709551616) (s : Int) (hs : s = (S : Int)) (w : World) :
    Calls Tryd.prog 11 #[.int .u64 s] w fun e w' => ∃ ao cap, e = .returned (.slice ao (mem S).length cap) ∧ Reads (.int .i64) w' ao (ints (mem S)) ∧ (ao = none → cap = 0) ∧ (mem S).length ≤ cap ∧ cap ≤ maxLen ∧ Below w.heap.size w w' := by
  obtain ⟨i0, hi, hz0, hz1, hz2⟩ := info_parts info_int
  have HI := Lib.hid hi
  have HZ0 := Lib.hid hz0
  have HZ1 := Lib.hid hz1
  have HZ2 := Lib.hid hz2
  have HS := Lib.hid hs
  clear hi hz0 hz1 hz2 hs
  go_enter Tryd.func11, Tryd.ntmps11
  go_wp2
  go_loopw [0, 3, 4] (fun sv v cv wr => ∃ k : Nat, cv = .int .i64 (k : Int) ∧ k ≤ 64 ∧ sv = .int .u64 ((S / 2 ^ k : Nat) : Int) ∧ Own (.int .i64) w.heap.size 3 v (ints (below k S)) wr ∧ Below w.heap.size w wr) (fun _ _ cv _ => 64 - (intOf cv).toNat)
  case atStart => exact ⟨0, rfl, by omega, by rw [Nat.pow_zero, Nat.div_one, HS.out], Own.nil (Nat.le_refl _), Below.refl _ _⟩
  case round =>
    obtain ⟨k, rfl, hk, rfl, ho, hb⟩ := hrel
    have HO := Lib.hid ho
    have HB := Lib.hid hb
    clear ho
    by_cases hpos : 0 < S / 2 ^ k
    · have hlt : k < 64 := by
        rcases Nat.lt_or_ge k 64 with h | h
        · exact h
        · have : k = 64 := by omega
          subst this
          rw [Nat.div_eq_of_lt (by simpa using hS)] at hpos
          omega
      have hlen := below_length k S
      obtain ⟨l, hl⟩ : ∃ l, l = ints (below k S) := ⟨_, rfl⟩
      have hll : l.length ≤ 64 := by rw [hl, ints_length]; omega
      obtain ⟨y, hy⟩ : ∃ y : Int, y = ((S / 2 ^ (k + 1) : Nat) : Int) := ⟨_, rfl⟩
      have hdd : S / 2 ^ (k + 1) = S / 2 ^ k / 2 := by rw [Nat.pow_succ, Nat.div_div_eq_div_mul]
      have hb2 : S.testBit k = decide (S / 2 ^ k % 2 = 1) := tb_div S k
      obtain ⟨X, hX⟩ : ∃ X, X = S / 2 ^ k := ⟨_, rfl⟩
      rw [← hX] at hpos hdd hb2 ⊢
      obtain ⟨x, hx⟩ : ∃ x : Int, x = (X : Int) := ⟨_, rfl⟩
      have x0 : 0 < x := by omega
      have x1 : 0 ≤ x := by omega
      obtain ⟨r, hr⟩ : ∃ r : Int, r = x % 2 := ⟨_, rfl⟩
      have t1 : Int.tmod x 2 = r := by rw [Int.tmod_eq_emod_of_nonneg x1, hr]
      have t2 : Int.tdiv x 2 = y := by rw [Int.tdiv_eq_ediv_of_nonneg x1, hy, hx, hdd]; omega
      have hXS : X ≤ S := by rw [hX]; exact Nat.div_le_self _ _
      have t3 : IntKind.u64.wrap y = y := by rw [IntKind.wrap_u64, hy, hdd]; omega
      have HY := Lib.hid hy
      rw [← hx]
      cases hc : S.testBit k with
      | true =>
        have hr1 : (r == 1) = true := by
          rw [hc] at hb2
          have := of_decide_eq_true hb2.symm
          rw [beq_iff_eq]; omega
        have HE : Hid (ints (below (k + 1) S) = l ++ [(k : Int)]) := Lib.hid (by rw [below_on k S hc, ints_append, ints_one, hl])
        rw [← hl] at HO
        clear hb2 hl hlen hy hX hx hr hdd hpos hXS
        go_wp2_with (first
          | (at_builtin; refine wpList_append_src rfl (.tmp 12) (.tmp 14) 22 rfl i0 _ 8 Tryd.underlying22 HI.out HZ0.out HZ1.out HZ2.out rfl (fun _ => rfl) rfl (HO.out.alloc _) _ 1 1 [(k : Int)] rfl rfl (one_int _ rfl rfl) (by intro h; cases h) (by omega) (by unfold maxLen; omega) ?_; intro v4 w4 o4 b4)
          | fail)
        go_roundw
        case rel => exact ⟨k + 1, by go_num, by omega, by rw [HY.out], by rw [HE.out]; exact o4, (HB.out.alloc HB.out.size _).trans b4⟩
        case measure => simp [intOf]; omega
      | false =>
        have hr1 : (r == 1) = false := by
          rw [hc] at hb2
          have := of_decide_eq_false hb2.symm
          rw [beq_eq_false_iff_ne]; omega
        have HE : Hid (ints (below (k + 1) S) = l) := Lib.hid (by rw [below_off k S hc, hl])
        rw [← hl] at HO
        clear hb2 hl hlen hy hX hx hr hdd hpos hXS
        go_wp2
        go_roundw
        case rel => exact ⟨k + 1, by go_num, by omega, by rw [HY.out], by rw [HE.out]; exact HO.out, HB.out⟩
        case measure => simp [intOf]; omega
    · have h0 : S / 2 ^ k = 0 := Nat.eq_zero_of_not_pos hpos
      have he := below_end k S hk h0
      rw [he] at HO
      obtain ⟨ao, cap, rfl, hr, hn, hc1, hc2⟩ := HO.out.value
      have HR := Lib.hid hr
      have HN := Lib.hid hn
      have HC1 := Lib.hid hc1
      have HL : Hid ((ints (mem S)).length = (mem S).length) := Lib.hid (by rw [ints_length])
      rw [h0]
      clear hr hn hc1 HO he h0 hpos
      go_wp2
      go_ret
      exact ⟨ao, cap, congrArg (fun n => Ending.returned (.slice ao n cap)) HL.out, HR.out, HN.out, by have := HC1.out; rwa [ints_length] at this, hc2, HB.out⟩

theorem or_same (s n : Nat) (h : s.testBit n = true) : s ||| 2 ^ n = s := by
  apply Nat.eq_of_testBit_eq
  intro i
  rw [or_tb]
  by_cases hi : n = i
  · subst hi; simp [h]
  · simp [hi]

set_option maxRecDepth 100000 in
set_option maxHeartbeats 2000000 in
theorem rset_any (a : Option Addr) (len cap : Nat) (zs : List Int) (w : World) (hlen : zs.length = len) (hl : len ≤ 9223372036854775806) (hr : Reads (.int .i64) w a zs) (hz : ∀ x ∈ zs, 0 ≤ x ∧ x < 64) :
    Calls Tryd.prog 28 #[.slice a len cap] w fun e w' => e = .returned (.int .u64 (setOf (nats zs) : Int)) ∧ w = w' := by
  subst hlen
  have HR := Lib.hid hr
  have HZ := Lib.hid hz
  clear hr hz
  go_enter Tryd.func28, Tryd.ntmps28
  go_wp2
  go_loopw [3, 4] (fun v cv wr => ∃ k : Nat, cv = .int .i64 (k : Int) ∧ k ≤ zs.length ∧ v = .int .u64 (setOf (nats (zs.take k)) : Int) ∧ w = wr) (fun _ cv _ => zs.length - (intOf cv).toNat)
  case atStart => exact ⟨0, rfl, by omega, rfl, rfl⟩
  case round =>
    obtain ⟨k, rfl, hk, rfl, rfl⟩ := hrel
    by_cases hlt : k < zs.length
    · obtain ⟨b, off, rfl, hc⟩ := HR.out.at_ hlt
      have NT := Lib.hid (nats_take_succ zs k hlt)
      have hn := HZ.out zs[k] (List.getElem_mem hlt)
      have HL := Lib.hid (fun x hx => HZ.out x (List.mem_of_mem_take hx) : ∀ x ∈ zs.take k, 0 ≤ x ∧ x < 64)
      obtain ⟨z, hz⟩ : ∃ z, z = zs[k] := ⟨_, rfl⟩
      rw [← hz] at hc NT hn
      clear hz
      obtain ⟨l, hl2⟩ : ∃ l, l = zs.take k := ⟨_, rfl⟩
      rw [← hl2] at NT HL ⊢
      clear hl2
      have hS : setOf (nats l) < 18446744073709551616 := setOf_lt _ (nats_lt HL.out)
      obtain ⟨x, hx⟩ : ∃ x : Int, x = (setOf (nats l) : Int) := ⟨_, rfl⟩
      have C2 := Lib.hid (fun w => rhas_any _ hS x z hx w)
      have C3 := Lib.hid (fun w => rbit_any z hn.1 hn.2 w)
      have HX := Lib.hid hx
      rw [← hx]
      clear hx
      have hi0 : (0 : Int) ≤ (k : Int) := by omega
      have hi1 : (k : Int) < ((zs.length : Nat) : Int) := by omega
      cases hh : hasB (setOf (nats l)) z with
      | true =>
        rw [hh] at C2
        have HO : Hid ((setOf (nats (zs.take (k + 1))) : Int) = x) := Lib.hid (by
          rw [NT.out, setOf_snoc, or_same, HX.out]
          unfold hasB at hh; rw [Bool.and_eq_true] at hh; exact hh.2)
        clear hh hS hn C3
        go_wp2_with (first
          | (go_at_call 16; (with_reducible refine (C2.out _).mono ?_); rintro e w' ⟨rfl, rfl⟩)
          | fail)
        go_roundw
        case rel => exact ⟨k + 1, by go_num, by omega, by rw [HO.out], trivial⟩
        case measure => simp [intOf]; omega
      | false =>
        rw [hh] at C2
        obtain ⟨p, hp⟩ : ∃ p : Int, p = ((2 ^ z.toNat : Nat) : Int) := ⟨_, rfl⟩
        rw [← hp] at C3
        have hb : (setOf (nats l)).testBit z.toNat = false := by
          unfold hasB at hh; rw [decide_eq_true hn, Bool.true_and] at hh; exact hh
        obtain ⟨y, hy⟩ : ∃ y : Int, y = (setOf (nats (zs.take (k + 1))) : Int) := ⟨_, rfl⟩
        have q : IntKind.u64.wrap (x + p) = y := by
          have h1 := add_bit _ _ hb
          have h2 : setOf (nats (zs.take (k + 1))) < 18446744073709551616 := setOf_lt _ (nats_lt fun x hx => HZ.out x (List.mem_of_mem_take hx))
          rw [NT.out, setOf_snoc, ← h1] at h2 hy
          rw [hy, IntKind.wrap_u64, HX.out, hp]
          generalize 2 ^ z.toNat = P at h2
          omega
        have HY := Lib.hid hy
        clear hh hS hn hp hb hy
        go_wp2_with (first
          | (go_at_call 16; (with_reducible refine (C2.out _).mono ?_); rintro e w' ⟨rfl, rfl⟩)
          | (go_at_call 30; (with_reducible refine (C3.out _).mono ?_); rintro e w' ⟨rfl, rfl⟩)
          | fail)
        go_roundw
        case rel => exact ⟨k + 1, by go_num, by omega, by rw [← HY.out], trivial⟩
        case measure => simp [intOf]; omega
    · have HE : Hid ((setOf (nats (zs.take k)) : Int) = (setOf (nats zs) : Int)) := Lib.hid (by rw [List.take_of_length_le (by omega)])
      obtain ⟨x, hx⟩ : ∃ x : Int, x = (setOf (nats (zs.take k)) : Int) := ⟨_, rfl⟩
      rw [← hx] at HE ⊢
      clear hx
      go_wp2
      go_ret
      exact ⟨ret_int HE.out, rfl⟩

end Go.Proofs.YtgneleembnchfaaDoor.Node
